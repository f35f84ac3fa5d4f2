/- What plumblinelaw03's live calls: digits of base 16, the digits of a text, 0.1 as a Double; live. -/
import Derived.Test.YtfbkiklopeebdaaConvB
import Derived.Test.YtfbkiklopeebdaaSoftO
import Derived.Laws.IdiomStrings
import Derived.Laws.RangeString
import Derived.Test.YtfbkiklopeebdaaWideG
import Derived.Test.YtfbkiklopeebdaaWideE
import Derived.Test.YtfbkiklopeebdaaSoftG
import Derived.Deep.RegionHeld3
import Derived.ArgAppend
import Derived.Test.YtfbkiklopeebdaaShelf
namespace Go.Proofs.Ytfbkiklopeebdaa
open Go.RowKit
set_option linter.unusedVariables false
set_option linter.unusedSimpArgs false
def pos0 (b : Nat) (w : World) : Nat := match w.heap[b]? with | some (.stringIter _ p) => p | _ => 0
theorem pos0_iter (w : World) (s : ByteArray) (p : Nat) : pos0 w.heap.size (w.iter s p) = p := by unfold pos0; rw [World.iter_heap]
set_option maxRecDepth 100000 in
set_option maxHeartbeats 1600000 in
theorem dig01 (w : World) : Calls Try.prog 9 #[.string ⟨#[48, 46, 49]⟩] w fun e w' => e = .returned (.int .i64 1) ∧ Below w.heap.size w w' := by
  have hn0 : ∀ ty, (Instr.next (.pointer (some ⟨w.heap.size, 0, none⟩)) true ty).run Try.prog (w.iter ⟨#[48, 46, 49]⟩ 0) = .ok (.tuple #[.bool true, .int .i64 0, .int .i32 48]) (w.iter ⟨#[48, 46, 49]⟩ 1) := fun ty => run_next_ascii w ⟨#[48, 46, 49]⟩ 0 ty (by decide) (by decide)
  have hn1 : ∀ ty, (Instr.next (.pointer (some ⟨w.heap.size, 0, none⟩)) true ty).run Try.prog (w.iter ⟨#[48, 46, 49]⟩ 1) = .ok (.tuple #[.bool true, .int .i64 1, .int .i32 46]) (w.iter ⟨#[48, 46, 49]⟩ 2) := fun ty => run_next_ascii w ⟨#[48, 46, 49]⟩ 1 ty (by decide) (by decide)
  go_enter Try.func9, Try.ntmps9
  go_wp2_with fail
  go_loopw [3] (fun i wr => wr = w.iter ⟨#[48, 46, 49]⟩ 0 ∨ wr = w.iter ⟨#[48, 46, 49]⟩ 1) (fun _ wr => 3 - pos0 w.heap.size wr)
  case atStart => exact Or.inl rfl
  case round =>
    rcases hrel with rfl | rfl
    · go_wp2_with fail
      go_roundw
      case rel => first | exact Or.inr rfl | simp
      case measure => simp only [pos0_iter]; decide
    · go_wp2_with fail
      go_ret
      exact ⟨rfl, (Below.refl _ _).alloc (Nat.le_refl _) _⟩
set_option maxRecDepth 100000 in
set_option maxHeartbeats 1600000 in
theorem dig1 (w : World) : Calls Try.prog 9 #[.string ⟨#[49]⟩] w fun e w' => e = .returned (.int .i64 1) ∧ Below w.heap.size w w' := by
  have hn0 : ∀ ty, (Instr.next (.pointer (some ⟨w.heap.size, 0, none⟩)) true ty).run Try.prog (w.iter ⟨#[49]⟩ 0) = .ok (.tuple #[.bool true, .int .i64 0, .int .i32 49]) (w.iter ⟨#[49]⟩ 1) := fun ty => run_next_ascii w ⟨#[49]⟩ 0 ty (by decide) (by decide)
  have hn1 : ∀ ty, (Instr.next (.pointer (some ⟨w.heap.size, 0, none⟩)) true ty).run Try.prog (w.iter ⟨#[49]⟩ 1) = .ok (.tuple #[.bool false]) (w.iter ⟨#[49]⟩ 1) := fun ty => run_next_end w ⟨#[49]⟩ 1 ty (by decide)
  go_enter Try.func9, Try.ntmps9
  go_wp2_with fail
  go_loopw [3] (fun i wr => wr = w.iter ⟨#[49]⟩ 0 ∨ wr = w.iter ⟨#[49]⟩ 1) (fun _ wr => 3 - pos0 w.heap.size wr)
  case atStart => exact Or.inl rfl
  case round =>
    rcases hrel with rfl | rfl
    · go_wp2_with fail
      go_roundw
      case rel => first | exact Or.inr rfl | simp
      case measure => simp only [pos0_iter]; decide
    · go_wp2_with fail
      go_ret
      exact ⟨rfl, (Below.refl _ _).alloc (Nat.le_refl _) _⟩
set_option maxRecDepth 100000 in
set_option maxHeartbeats 1600000 in
theorem num01 (w : World) : Calls Try.prog 12 #[.string ⟨#[48, 49]⟩] w fun e w' => e = .returned (.int .u64 1) ∧ Below w.heap.size w w' := by
  have hn0 : ∀ ty, (Instr.next (.pointer (some ⟨w.heap.size, 0, none⟩)) true ty).run Try.prog (w.iter ⟨#[48, 49]⟩ 0) = .ok (.tuple #[.bool true, .int .i64 0, .int .i32 48]) (w.iter ⟨#[48, 49]⟩ 1) := fun ty => run_next_ascii w ⟨#[48, 49]⟩ 0 ty (by decide) (by decide)
  have hn1 : ∀ ty, (Instr.next (.pointer (some ⟨w.heap.size, 0, none⟩)) true ty).run Try.prog (w.iter ⟨#[48, 49]⟩ 1) = .ok (.tuple #[.bool true, .int .i64 1, .int .i32 49]) (w.iter ⟨#[48, 49]⟩ 2) := fun ty => run_next_ascii w ⟨#[48, 49]⟩ 1 ty (by decide) (by decide)
  have hn2 : ∀ ty, (Instr.next (.pointer (some ⟨w.heap.size, 0, none⟩)) true ty).run Try.prog (w.iter ⟨#[48, 49]⟩ 2) = .ok (.tuple #[.bool false]) (w.iter ⟨#[48, 49]⟩ 2) := fun ty => run_next_end w ⟨#[48, 49]⟩ 2 ty (by decide)
  go_enter Try.func12, Try.ntmps12
  go_wp2_with fail
  go_loopw [3] (fun n wr => wr = w.iter ⟨#[48, 49]⟩ 0 ∧ n = .int .u64 0 ∨ wr = w.iter ⟨#[48, 49]⟩ 1 ∧ n = .int .u64 0 ∨ wr = w.iter ⟨#[48, 49]⟩ 2 ∧ n = .int .u64 1) (fun _ wr => 3 - pos0 w.heap.size wr)
  case atStart => exact Or.inl ⟨rfl, rfl⟩
  case round =>
    rcases hrel with ⟨rfl, rfl⟩ | ⟨rfl, rfl⟩ | ⟨rfl, rfl⟩
    · go_wp2_with fail
      go_roundw
      case rel => simp; exact Or.inr (Or.inl rfl)
      case measure => simp only [pos0_iter]; decide
    · go_wp2_with fail
      go_roundw
      case rel => simp; exact Or.inr (Or.inr rfl)
      case measure => simp only [pos0_iter]; decide
    · go_wp2_with fail
      go_ret
      exact ⟨rfl, (Below.refl _ _).alloc (Nat.le_refl _) _⟩
set_option maxRecDepth 100000 in
set_option maxHeartbeats 1600000 in
theorem cut01 (w : World) : Calls Try.prog 10 #[.string ⟨#[48, 46, 49]⟩, .int .i64 1] w fun e w' => e = .returned (.tuple #[.slice (some ⟨w.heap.size, 0, none⟩) 1 1, .slice (some ⟨w.heap.size, 2, none⟩) 1 1]) ∧ w'.cell? ⟨w.heap.size, 0, none⟩ = some (.int .u8 48) ∧ w'.cell? ⟨w.heap.size, 2, none⟩ = some (.int .u8 49) ∧ Below w.heap.size w w' := by
  have hcv := run_bytes_of_string (P := Try.prog) w 9 40 5 ⟨#[48, 46, 49]⟩ Try.underlying9 Try.underlying40 Try.underlying5
  have hcap : 3 ≤ grownCap w (ByteArray.size ⟨#[48, 46, 49]⟩) 0 5 := grownCap_ge w 3 0 5
  generalize grownCap w (ByteArray.size ⟨#[48, 46, 49]⟩) 0 5 = C at *
  have hc2 : (3 : Int) ≤ (C : Int) := by omega
  have hc3 : (1 : Int) ≤ (C : Int) := by omega
  have x0 : ∀ W : World, (W.alloc (.cells (bytesRow ⟨#[48, 46, 49]⟩ C) 5 ((bytesRow ⟨#[48, 46, 49]⟩ C).size, (bytesRow ⟨#[48, 46, 49]⟩ C).size + 1))).cell? ⟨W.heap.size, 0, none⟩ = some (.int .u8 48) := fun W => (cell_of_row _ W.heap.size 0 _ 5 _ (heap_alloc_new W _)).trans (by simp [bytesRow, Array.getElem?_append])
  have x2 : ∀ W : World, (W.alloc (.cells (bytesRow ⟨#[48, 46, 49]⟩ C) 5 ((bytesRow ⟨#[48, 46, 49]⟩ C).size, (bytesRow ⟨#[48, 46, 49]⟩ C).size + 1))).cell? ⟨W.heap.size, 2, none⟩ = some (.int .u8 49) := fun W => (cell_of_row _ W.heap.size 2 _ 5 _ (heap_alloc_new W _)).trans (by simp [bytesRow, Array.getElem?_append])
  go_enter Try.func10, Try.ntmps10
  go_wp2_with fail
  go_region
  go_wp2_with fail
  refine bodyPost_ret (v := .tuple #[.slice (some ⟨w.heap.size, 0, none⟩) 1 1, .slice (some ⟨w.heap.size, 2, none⟩) 1 1]) (by simp [results, Try.results10, go_sem]) rfl ?_
  exact ⟨rfl, x0 w.drew, x2 w.drew, (((Below.refl _ _).drew).alloc (Nat.le_refl _) _).drew⟩
theorem tenth : rndQ false 0 false 17014118346046923173168730371588410572 (-127) true = 4591870180066957722 := by decide +kernel
set_option maxRecDepth 100000 in
set_option maxHeartbeats 1600000 in
theorem dec1 (w : World) : Calls Try.prog 11 #[.int .i64 0, .int .u64 1, .int .i64 1] w fun e w' => e = .returned (.int .u64 4591870180066957722) ∧ Below w.heap.size w w' := by
  have w1' : Word 1 := ⟨by decide, by decide⟩
  have w10 : Word 10 := ⟨by decide, by decide⟩
  have hln : ∀ w, Calls Try.prog 17 #[.agg #[.int .u64 0, .int .u64 1]] w fun e w' => e = .returned (.int .i64 1) ∧ w' = w.alloc (.cells #[.int .u64 0, .int .u64 1] 49) := fun w => by
    have t := len_ex 0 1 word_zero w1' w
    rw [show ((blen (nn 0 1) : Nat) : Int) = 1 by decide +kernel] at t
    exact t
  have hsl := shl_any 0 1 127 word_zero w1' (by decide) (by decide)
  have hdv := fun (h l : Int) (wh : Word h) (wl : Word l) => div_pos h l 10 wh wl w10 (by decide)
  have hrd := fun (h l : Int) (wh : Word h) (wl : Word l) => round_any 0 0 false h l (-127) true wh wl (by decide) (by decide)
  go_enter Try.func11, Try.ntmps11
  go_wp2_with fail
  go_loopw [7, 12] (fun b i wr => (b = .int .u64 1 ∧ i = .int .i64 0 ∨ b = .int .u64 10 ∧ i = .int .i64 1) ∧ wr = w) (fun _ i _ => 1 - (intOf i).toNat)
  case atStart => exact ⟨Or.inl ⟨rfl, rfl⟩, rfl⟩
  case round =>
    obtain ⟨hr, rfl⟩ := hrel
    rcases hr with ⟨rfl, rfl⟩ | ⟨rfl, rfl⟩
    · go_wp2_with fail
      go_roundw
      case rel => first | exact ⟨Or.inr ⟨rfl, rfl⟩, rfl⟩ | simp
      case measure => first | (simp [intOf]; done) | decide
    · go_wp2_with (first
        | (go_at_call 17; refine (hln _).mono ?_; rintro e w1 ⟨rfl, rfl⟩)
        | (go_at_call 19; refine (hsl _).mono ?_; rintro e w2 ⟨h2, l2, rfl, wh2, wl2, E2, b2⟩)
        | (go_at_call 18; refine (hdv _ _ wh2 wl2 _).mono ?_; rintro e w3 ⟨h3, l3, r3, rfl, wh3, wl3, wr3, E3, R3, b3⟩; have er : r3 = 8 := (by rw [R3.out, E2.out]; decide +kernel); subst er; have en : nn h3 l3 = 17014118346046923173168730371588410572 := (by unfold nn; rw [E3.out, E2.out]; decide +kernel); have hR := hrd h3 l3 wh3 wl3; rw [en, show clamp (-127) = -127 by decide, show ((0 : Int) == 1) = false from rfl, tenth] at hR; clear E2 E3 R3 en)
        | (go_at_call 20; refine (hR _).mono ?_; rintro e w4 ⟨rfl, b4⟩)
        | fail)
      go_ret
      exact ⟨rfl, below_callC (below_new (below_callC (below_callC (below_new (Below.refl _ _) _) b2) b3) _) b4⟩
set_option maxRecDepth 1000000 in
set_option maxHeartbeats 3200000 in
theorem lit01 (w : World) : Calls Try.prog 5 #[.int .i64 0, .string ⟨#[48, 46, 49]⟩] w fun e w' => e = .returned (.tuple #[.int .u64 4591870180066957722, .int .i64 0]) ∧ Below w.heap.size w w' := by
  have hd0 := dig01
  have hd1 := dig1
  have hcu := cut01
  have hnu := num01
  have hde := dec1
  have ex : ByteArray.extract ⟨#[48, 46, 49]⟩ 2 3 = ⟨#[49]⟩ := by rfl
  go_enter Try.func5, Try.ntmps5
  go_wp2_with fail
  refine wp_scope_jumps (rest := restOf Try.f5) 0 (fun _ _ => False) (fun _ _ => 0) (by kernel_rfl) ?_ (fun a w' hJ => hJ.elim)
  go_wp2_with fail
  refine (hd0 _).mono ?_
  rintro e w1 ⟨rfl, b1⟩
  go_wp2_with fail
  refine (hd1 _).mono ?_
  rintro e w2 ⟨rfl, b2⟩
  go_wp2_with fail
  refine (hcu _).mono ?_
  rintro e w3 ⟨rfl, x0, x2, b3⟩
  go_wp2_with fail
  have hx : ∀ (W : World) (C : Nat), W.cell? ⟨w3.heap.size, 0, none⟩ = some (.int .u8 48) → W.cell? ⟨w3.heap.size, 1, none⟩ = some (.int .u8 49) → (convert 40 9 (.slice (some ⟨w3.heap.size, 0, none⟩) 2 C)).run Try.prog W = .ok (.string ⟨#[48, 49]⟩) W := fun W C c0 c1 =>
    run_convert_bytes_back (P := Try.prog) W 40 9 5 ⟨w3.heap.size, 0, none⟩ C [48, 49] Try.underlying40 Try.underlying5 Try.underlying9 (fun j hj => by
      have : j = 0 ∨ j = 1 := by simp at hj; omega
      rcases this with rfl | rfl
      · exact c0
      · exact c1)
  rw [hx _ _ (by exact (cell_of_row (w3.alloc _) w3.heap.size 0 _ 5 _ (heap_alloc_new w3 _)).trans (by simp [Array.getElem?_append])) (by exact (cell_of_row (w3.alloc _) w3.heap.size 1 _ 5 _ (heap_alloc_new w3 _)).trans (by simp [Array.getElem?_append]))]
  clear hx
  go_wp2_with (first
    | (go_at_call 12; refine (hnu _).mono ?_; rintro e w4 ⟨rfl, b4⟩)
    | (go_at_call 11; refine (hde _).mono ?_; rintro e w5 ⟨rfl, b5⟩)
    | fail)
  refine jump_ret (bodyPost_ret (v := .tuple #[.int .u64 4591870180066957722, .int .i64 0]) (by simp [results, Try.results5, go_sem]) rfl ?_)
  exact ⟨rfl, below_callC (below_callC ((below_new (below_callC (below_callC b1 b2) b3) _).drew) b4) b5⟩
theorem three : rnd true 0 false 3 0 = 1077936128 := by decide +kernel
end Go.Proofs.Ytfbkiklopeebdaa

