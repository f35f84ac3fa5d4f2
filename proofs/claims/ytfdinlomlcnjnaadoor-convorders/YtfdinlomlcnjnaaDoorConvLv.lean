/- What plumblinelaw03's live calls: digits of base 16, the digits of a text, 0.1 as a Double; live. -/
import Derived.Test.YtfdinlomlcnjnaaDoorConvB
import Derived.Test.YtfdinlomlcnjnaaDoorSoftO
import Derived.Laws.IdiomStrings
import Derived.Laws.RangeString
import Derived.Test.YtfdinlomlcnjnaaDoorWideG
import Derived.Test.YtfdinlomlcnjnaaDoorWideE
import Derived.Test.YtfdinlomlcnjnaaDoorSoftG
import Derived.Deep.RegionHeld3
import Derived.ArgAppend
import Derived.Test.YtfdinlomlcnjnaaDoorShelf
namespace Go.Proofs.YtfdinlomlcnjnaaDoor
open Go.RowKit
set_option linter.unusedVariables false
set_option linter.unusedSimpArgs false
def pos0 (b : Nat) (w : World) : Nat := match w.heap[b]? with | some (.stringIter _ p) => p | _ => 0
theorem pos0_iter (w : World) (s : ByteArray) (p : Nat) : pos0 w.heap.size (w.iter s p) = p := by unfold pos0; rw [World.iter_heap]
set_option maxRecDepth 100000 in
set_option maxHeartbeats 1600000 in
theorem dig01 (w : World) : Calls Tryd.prog 52 #[.string ⟨#[48, 46, 49]⟩] w fun e w' => e = .returned (.int .i64 1) ∧ Below w.heap.size w w' := by
  have hn0 : ∀ ty, (Instr.next (.pointer (some ⟨w.heap.size, 0, none⟩)) true ty).run Tryd.prog (w.iter ⟨#[48, 46, 49]⟩ 0) = .ok (.tuple #[.bool true, .int .i64 0, .int .i32 48]) (w.iter ⟨#[48, 46, 49]⟩ 1) := fun ty => run_next_ascii w ⟨#[48, 46, 49]⟩ 0 ty (by decide) (by decide)
  have hn1 : ∀ ty, (Instr.next (.pointer (some ⟨w.heap.size, 0, none⟩)) true ty).run Tryd.prog (w.iter ⟨#[48, 46, 49]⟩ 1) = .ok (.tuple #[.bool true, .int .i64 1, .int .i32 46]) (w.iter ⟨#[48, 46, 49]⟩ 2) := fun ty => run_next_ascii w ⟨#[48, 46, 49]⟩ 1 ty (by decide) (by decide)
  go_enter Tryd.func52, Tryd.ntmps52
  go_wp2_with fail
  go_loopw [3] (fun i wr => wr = w.iter ⟨#[48, 46, 49]⟩ 0 ∨ wr = w.iter ⟨#[48, 46, 49]⟩ 1) (fun _ wr => 3 - pos0 w.heap.size wr)
  case atStart => exact Or.inl rfl
  case round =>
    rcases hrel with rfl | rfl
    · go_wp2_with fail
      go_roundw
      case rel => first | exact Or.inr rfl | simp
      case measure => simp only [pos0_iter]; decide
    · go_wp2_with fail
      go_ret
      exact ⟨rfl, (Below.refl _ _).alloc (Nat.le_refl _) _⟩
set_option maxRecDepth 100000 in
set_option maxHeartbeats 1600000 in
theorem dig1 (w : World) : Calls Tryd.prog 52 #[.string ⟨#[49]⟩] w fun e w' => e = .returned (.int .i64 1) ∧ Below w.heap.size w w' := by
  have hn0 : ∀ ty, (Instr.next (.pointer (some ⟨w.heap.size, 0, none⟩)) true ty).run Tryd.prog (w.iter ⟨#[49]⟩ 0) = .ok (.tuple #[.bool true, .int .i64 0, .int .i32 49]) (w.iter ⟨#[49]⟩ 1) := fun ty => run_next_ascii w ⟨#[49]⟩ 0 ty (by decide) (by decide)
  have hn1 : ∀ ty, (Instr.next (.pointer (some ⟨w.heap.size, 0, none⟩)) true ty).run Tryd.prog (w.iter ⟨#[49]⟩ 1) = .ok (.tuple #[.bool false]) (w.iter ⟨#[49]⟩ 1) := fun ty => run_next_end w ⟨#[49]⟩ 1 ty (by decide)
  go_enter Tryd.func52, Tryd.ntmps52
  go_wp2_with fail
  go_loopw [3] (fun i wr => wr = w.iter ⟨#[49]⟩ 0 ∨ wr = w.iter ⟨#[49]⟩ 1) (fun _ wr => 3 - pos0 w.heap.size wr)
  case atStart => exact Or.inl rfl
  case round =>
    rcases hrel with rfl | rfl
    · go_wp2_with fail
      go_roundw
      case rel => first | exact Or.inr rfl | simp
      case measure => simp only [pos0_iter]; decide
    · go_wp2_with fail
      go_ret
      exact ⟨rfl, (Below.refl _ _).alloc (Nat.le_refl _) _⟩
set_option maxRecDepth 100000 in
set_option maxHeartbeats 1600000 in
theorem num01 (w : World) : Calls Tryd.prog 55 #[.string ⟨#[48, 49]⟩] w fun e w' => e = .returned (.int .u64 1) ∧ Below w.heap.size w w' := by
  have hn0 : ∀ ty, (Instr.next (.pointer (some ⟨w.heap.size, 0, none⟩)) true ty).run Tryd.prog (w.iter ⟨#[48, 49]⟩ 0) = .ok (.tuple #[.bool true, .int .i64 0, .int .i32 48]) (w.iter ⟨#[48, 49]⟩ 1) := fun ty => run_next_ascii w ⟨#[48, 49]⟩ 0 ty (by decide) (by decide)
  have hn1 : ∀ ty, (Instr.next (.pointer (some ⟨w.heap.size, 0, none⟩)) true ty).run Tryd.prog (w.iter ⟨#[48, 49]⟩ 1) = .ok (.tuple #[.bool true, .int .i64 1, .int .i32 49]) (w.iter ⟨#[48, 49]⟩ 2) := fun ty => run_next_ascii w ⟨#[48, 49]⟩ 1 ty (by decide) (by decide)
  have hn2 : ∀ ty, (Instr.next (.pointer (some ⟨w.heap.size, 0, none⟩)) true ty).run Tryd.prog (w.iter ⟨#[48, 49]⟩ 2) = .ok (.tuple #[.bool false]) (w.iter ⟨#[48, 49]⟩ 2) := fun ty => run_next_end w ⟨#[48, 49]⟩ 2 ty (by decide)
  go_enter Tryd.func55, Tryd.ntmps55
  go_wp2_with fail
  go_loopw [3] (fun n wr => wr = w.iter ⟨#[48, 49]⟩ 0 ∧ n = .int .u64 0 ∨ wr = w.iter ⟨#[48, 49]⟩ 1 ∧ n = .int .u64 0 ∨ wr = w.iter ⟨#[48, 49]⟩ 2 ∧ n = .int .u64 1) (fun _ wr => 3 - pos0 w.heap.size wr)
  case atStart => exact Or.inl ⟨rfl, rfl⟩
  case round =>
    rcases hrel with ⟨rfl, rfl⟩ | ⟨rfl, rfl⟩ | ⟨rfl, rfl⟩
    · go_wp2_with fail
      go_roundw
      case rel => simp; exact Or.inr (Or.inl rfl)
      case measure => simp only [pos0_iter]; decide
    · go_wp2_with fail
      go_roundw
      case rel => simp; exact Or.inr (Or.inr rfl)
      case measure => simp only [pos0_iter]; decide
    · go_wp2_with fail
      go_ret
      exact ⟨rfl, (Below.refl _ _).alloc (Nat.le_refl _) _⟩
set_option maxRecDepth 100000 in
set_option maxHeartbeats 1600000 in
theorem cut01 (w : World) : Calls Tryd.prog 53 #[.string ⟨#[48, 46, 49]⟩, .int .i64 1] w fun e w' => e = .returned (.tuple #[.slice (some ⟨w.heap.size, 0, none⟩) 1 1, .slice (some ⟨w.heap.size, 2, none⟩) 1 1]) ∧ w'.cell? ⟨w.heap.size, 0, none⟩ = some (.int .u8 48) ∧ w'.cell? ⟨w.heap.size, 2, none⟩ = some (.int .u8 49) ∧ Below w.heap.size w w' := by
  have hcv := run_bytes_of_string (P := Tryd.prog) w 9 69 5 ⟨#[48, 46, 49]⟩ Tryd.underlying9 Tryd.underlying69 Tryd.underlying5
  have hcap : 3 ≤ grownCap w (ByteArray.size ⟨#[48, 46, 49]⟩) 0 5 := grownCap_ge w 3 0 5
  generalize grownCap w (ByteArray.size ⟨#[48, 46, 49]⟩) 0 5 = C at *
  have hc2 : (3 : Int) ≤ (C : Int) := by omega
  have hc3 : (1 : Int) ≤ (C : Int) := by omega
  have x0 : ∀ W : World, (W.alloc (.cells (bytesRow ⟨#[48, 46, 49]⟩ C) 5 ((bytesRow ⟨#[48, 46, 49]⟩ C).size, (bytesRow ⟨#[48, 46, 49]⟩ C).size + 1))).cell? ⟨W.heap.size, 0, none⟩ = some (.int .u8 48) := fun W => (cell_of_row _ W.heap.size 0 _ 5 _ (heap_alloc_new W _)).trans (by simp [bytesRow, Array.getElem?_append])
  have x2 : ∀ W : World, (W.alloc (.cells (bytesRow ⟨#[48, 46, 49]⟩ C) 5 ((bytesRow ⟨#[48, 46, 49]⟩ C).size, (bytesRow ⟨#[48, 46, 49]⟩ C).size + 1))).cell? ⟨W.heap.size, 2, none⟩ = some (.int .u8 49) := fun W => (cell_of_row _ W.heap.size 2 _ 5 _ (heap_alloc_new W _)).trans (by simp [bytesRow, Array.getElem?_append])
  go_enter Tryd.func53, Tryd.ntmps53
  go_wp2_with fail
  go_region
  go_wp2_with fail
  refine bodyPost_ret (v := .tuple #[.slice (some ⟨w.heap.size, 0, none⟩) 1 1, .slice (some ⟨w.heap.size, 2, none⟩) 1 1]) (by simp [results, Tryd.results53, go_sem]) rfl ?_
  exact ⟨rfl, x0 w.drew, x2 w.drew, (((Below.refl _ _).drew).alloc (Nat.le_refl _) _).drew⟩
theorem tenth : rndQ false 0 false 17014118346046923173168730371588410572 (-127) true = 4591870180066957722 := by decide +kernel
set_option maxRecDepth 100000 in
set_option maxHeartbeats 1600000 in
theorem dec1 (w : World) : Calls Tryd.prog 54 #[.int .i64 0, .int .u64 1, .int .i64 1] w fun e w' => e = .returned (.int .u64 4591870180066957722) ∧ Below w.heap.size w w' := by
  have w1' : Word 1 := ⟨by decide, by decide⟩
  have w10 : Word 10 := ⟨by decide, by decide⟩
  have hln : ∀ w, Calls Tryd.prog 45 #[.agg #[.int .u64 0, .int .u64 1]] w fun e w' => e = .returned (.int .i64 1) ∧ w' = w.alloc (.cells #[.int .u64 0, .int .u64 1] 57) := fun w => by
    have t := len_ex 0 1 word_zero w1' w
    rw [show ((blen (nn 0 1) : Nat) : Int) = 1 by decide +kernel] at t
    exact t
  have hsl := shl_any 0 1 127 word_zero w1' (by decide) (by decide)
  have hdv := fun (h l : Int) (wh : Word h) (wl : Word l) => div_pos h l 10 wh wl w10 (by decide)
  have hrd := fun (h l : Int) (wh : Word h) (wl : Word l) => round_any 0 0 false h l (-127) true wh wl (by decide) (by decide)
  go_enter Tryd.func54, Tryd.ntmps54
  go_wp2_with fail
  go_loopw [7, 12] (fun b i wr => (b = .int .u64 1 ∧ i = .int .i64 0 ∨ b = .int .u64 10 ∧ i = .int .i64 1) ∧ wr = w) (fun _ i _ => 1 - (intOf i).toNat)
  case atStart => exact ⟨Or.inl ⟨rfl, rfl⟩, rfl⟩
  case round =>
    obtain ⟨hr, rfl⟩ := hrel
    rcases hr with ⟨rfl, rfl⟩ | ⟨rfl, rfl⟩
    · go_wp2_with fail
      go_roundw
      case rel => first | exact ⟨Or.inr ⟨rfl, rfl⟩, rfl⟩ | simp
      case measure => first | (simp [intOf]; done) | decide
    · go_wp2_with (first
        | (go_at_call 45; refine (hln _).mono ?_; rintro e w1 ⟨rfl, rfl⟩)
        | (go_at_call 77; refine (hsl _).mono ?_; rintro e w2 ⟨h2, l2, rfl, wh2, wl2, E2, b2⟩)
        | (go_at_call 86; refine (hdv _ _ wh2 wl2 _).mono ?_; rintro e w3 ⟨h3, l3, r3, rfl, wh3, wl3, wr3, E3, R3, b3⟩; have er : r3 = 8 := (by rw [R3.out, E2.out]; decide +kernel); subst er; have en : nn h3 l3 = 17014118346046923173168730371588410572 := (by unfold nn; rw [E3.out, E2.out]; decide +kernel); have hR := hrd h3 l3 wh3 wl3; rw [en, show clamp (-127) = -127 by decide, show ((0 : Int) == 1) = false from rfl, tenth] at hR; clear E2 E3 R3 en)
        | (go_at_call 49; refine (hR _).mono ?_; rintro e w4 ⟨rfl, b4⟩)
        | fail)
      go_ret
      exact ⟨rfl, below_callC (below_new (below_callC (below_callC (below_new (Below.refl _ _) _) b2) b3) _) b4⟩
set_option maxRecDepth 1000000 in
set_option maxHeartbeats 3200000 in
theorem lit01 (w : World) : Calls Tryd.prog 22 #[.int .i64 0, .string ⟨#[48, 46, 49]⟩] w fun e w' => e = .returned (.tuple #[.int .u64 4591870180066957722, .int .i64 0]) ∧ Below w.heap.size w w' := by
  have hd0 := dig01
  have hd1 := dig1
  have hcu := cut01
  have hnu := num01
  have hde := dec1
  have ex : ByteArray.extract ⟨#[48, 46, 49]⟩ 2 3 = ⟨#[49]⟩ := by rfl
  go_enter Tryd.func22, Tryd.ntmps22
  go_wp2_with fail
  refine wp_scope_jumps (rest := restOf Tryd.f22) 0 (fun _ _ => False) (fun _ _ => 0) (by kernel_rfl) ?_ (fun a w' hJ => hJ.elim)
  go_wp2_with fail
  refine (hd0 _).mono ?_
  rintro e w1 ⟨rfl, b1⟩
  go_wp2_with fail
  refine (hd1 _).mono ?_
  rintro e w2 ⟨rfl, b2⟩
  go_wp2_with fail
  refine (hcu _).mono ?_
  rintro e w3 ⟨rfl, x0, x2, b3⟩
  go_wp2_with fail
  have hx : ∀ (W : World) (C : Nat), W.cell? ⟨w3.heap.size, 0, none⟩ = some (.int .u8 48) → W.cell? ⟨w3.heap.size, 1, none⟩ = some (.int .u8 49) → (convert 69 9 (.slice (some ⟨w3.heap.size, 0, none⟩) 2 C)).run Tryd.prog W = .ok (.string ⟨#[48, 49]⟩) W := fun W C c0 c1 =>
    run_convert_bytes_back (P := Tryd.prog) W 69 9 5 ⟨w3.heap.size, 0, none⟩ C [48, 49] Tryd.underlying69 Tryd.underlying5 Tryd.underlying9 (fun j hj => by
      have : j = 0 ∨ j = 1 := by simp at hj; omega
      rcases this with rfl | rfl
      · exact c0
      · exact c1)
  rw [hx _ _ (by exact (cell_of_row (w3.alloc _) w3.heap.size 0 _ 5 _ (heap_alloc_new w3 _)).trans (by simp [Array.getElem?_append])) (by exact (cell_of_row (w3.alloc _) w3.heap.size 1 _ 5 _ (heap_alloc_new w3 _)).trans (by simp [Array.getElem?_append]))]
  clear hx
  go_wp2_with (first
    | (go_at_call 55; refine (hnu _).mono ?_; rintro e w4 ⟨rfl, b4⟩)
    | (go_at_call 54; refine (hde _).mono ?_; rintro e w5 ⟨rfl, b5⟩)
    | fail)
  refine jump_ret (bodyPost_ret (v := .tuple #[.int .u64 4591870180066957722, .int .i64 0]) (by simp [results, Tryd.results22, go_sem]) rfl ?_)
  exact ⟨rfl, below_callC (below_callC ((below_new (below_callC (below_callC b1 b2) b3) _).drew) b4) b5⟩
theorem tz16 (w : World) (h : w.cell? ⟨5, 15, none⟩ = some (.int .u8 4)) :
    Calls Tryd.prog 116 #[.int .u64 16] w fun e w' => e = .returned (.int .i64 4) ∧ w' = w := by
  have e1 : IntKind.u64.wrap (-16) = 18446744073709551600 := rfl
  have e2 : bits BinOp.and IntKind.u64 16 18446744073709551600 = 16 := by decide +kernel
  have e3 : IntKind.u64.wrap (16 * 285870213051353865) = 4573923408821661840 := rfl
  go_enter Tryd.func116, Tryd.ntmps116
  go_wp2_with go_in
  go_ret
  exact ⟨rfl, rfl⟩
theorem pow16 (w : World) : Calls Tryd.prog 115 #[.int .i64 16] w fun e w' => e = .returned (.bool true) ∧ w' = w := by
  have e2 : bits BinOp.and IntKind.i64 16 15 = 0 := by decide +kernel
  go_enter Tryd.func115, Tryd.ntmps115
  go_wp2
  go_ret
  exact ⟨rfl, rfl⟩
set_option maxRecDepth 100000 in
set_option maxHeartbeats 3200000 in
theorem fb1 (w : World) (h : w.cell? ⟨5, 15, none⟩ = some (.int .u8 4)) :
    Calls Tryd.prog 106 #[.slice none 0 0, .int .u64 1, .int .i64 16, .bool false, .bool false] w fun e w' => e = .returned (.tuple #[.slice none 0 0, .string ⟨#[49]⟩]) ∧ Below w.heap.size w w' := by
  have h2 : ∀ o, (w.alloc o).cell? ⟨5, 15, none⟩ = some (.int .u8 4) := fun o => cell_past h o
  go_enter Tryd.func106, Tryd.ntmps106
  go_wp2_with (first
    | (go_at_call 115; refine (pow16 _).mono ?_; rintro e w1 ⟨rfl, hw⟩; rw [hw]; clear hw w1)
    | (go_at_call 116; refine (tz16 _ (h2 _)).mono ?_; rintro e w1 ⟨rfl, hw⟩; rw [hw]; clear hw w1)
    | fail)
  go_loopw [1, 13] (fun u i wr => u = .int .u64 1 ∧ i = .int .i64 65 ∧ wr = w.alloc (.cells Tryd.zeroCells144 144)) (fun _ _ _ => 0)
  case atStart => exact ⟨rfl, rfl, rfl⟩
  case round =>
    obtain ⟨rfl, rfl, rfl⟩ := hrel
    have hx : ∀ (W : World), W.cell? ⟨w.heap.size, 64, none⟩ = some (.int .u8 49) → (convert 69 9 (.slice (some ⟨w.heap.size, 64, none⟩) 1 1)).run Tryd.prog W = .ok (.string ⟨#[49]⟩) W := fun W hc =>
      run_convert_bytes_back (P := Tryd.prog) W 69 9 5 ⟨w.heap.size, 64, none⟩ 1 [49] Tryd.underlying69 Tryd.underlying5 Tryd.underlying9 (fun j hj => by
        have : j = 0 := by simpa using hj
        subst this
        exact hc)
    go_wp2_with fail
    rw [hx _ (by simp [go_sem, Tryd.zeroCells144]; rfl)]
    go_wp2_with fail
    refine bodyPost_ret (v := .tuple #[.slice none 0 0, .string ⟨#[49]⟩]) (by simp [results, Tryd.results106, go_sem]) rfl ?_
    exact ⟨rfl, below_new (Below.refl _ _) _⟩
theorem fu1 (w : World) (h : w.cell? ⟨5, 15, none⟩ = some (.int .u8 4)) :
    Calls Tryd.prog 65 #[.int .u64 1, .int .i64 16] w fun e w' => e = .returned (.string ⟨#[49]⟩) ∧ Below w.heap.size w w' := by
  go_enter Tryd.func65, Tryd.ntmps65
  go_wp2_with (first
    | (go_at_call 106; refine (fb1 _ h).mono ?_; rintro e w1 ⟨rfl, hw⟩)
    | go_in)
  go_ret
  exact ⟨rfl, hw⟩
set_option maxHeartbeats 1600000 in
/-- The next float above 0 of a Single. -/
theorem next0 (w : World) : Calls Tryd.prog 26 #[.int .i64 1, .int .u64 0] w fun e w' => e = .returned (.int .u64 1) ∧ Below w.heap.size w w' := by
  have hsh := shapeOf_ex 1
  have hsg := csign_ex true
  have hfi := finite_fl 1 0 word_zero
  have hmo := most_fl 1
  have e1 : finF ((1 : Int) == 1) 0 = true := by decide +kernel
  rw [e1] at hfi
  have e2 : fI ((1 : Int) == 1) - 1 = 2139095039 := rfl
  rw [e2] at hmo
  have e3 : bits BinOp.andNot IntKind.u64 0 2147483648 = 0 := by decide +kernel
  have hsg' : ∀ w, Calls Tryd.prog 59 #[shpV ((1 : Int) == 1)] w fun e w' => e = .returned (.int .u64 2147483648) ∧ w' = w.alloc (shpO true) := hsg
  generalize shpV ((1 : Int) == 1) = V at *
  go_enter Tryd.func26, Tryd.ntmps26
  go_wp2_with (first
    | (go_at_call 58; refine (hsh _).mono ?_; rintro e w1 ⟨rfl, o1, rfl⟩)
    | (go_at_call 59; refine (hsg' _).mono ?_; rintro e w1 ⟨rfl, rfl⟩)
    | (go_at_call 36; refine (hfi _).mono ?_; rintro e w2 ⟨rfl, b2⟩)
    | (go_at_call 37; refine (hmo _).mono ?_; rintro e w3 ⟨rfl, b3⟩))
  go_ret
  exact ⟨rfl, below_callC (below_callC (below_two w _ _) b2) b3⟩
theorem field_w (w : World) : (Instr.field 79 (.agg #[.int .i64 32, .int .i64 23, .int .i64 (-149)]) 0).run Tryd.prog w = .ok (.int .i64 32) w := by kernel_rfl
set_option maxRecDepth 100000 in
set_option maxHeartbeats 3200000 in
/-- Hex of that. -/
theorem hex1 (w : World) (h : w.cell? ⟨5, 15, none⟩ = some (.int .u8 4)) : Calls Tryd.prog 32 #[.int .i64 1, .int .u64 1] w fun e w' => e = .returned (.string ⟨#[48, 48, 48, 48, 48, 48, 48, 49]⟩) ∧ Below w.heap.size w w' := by
  have w1' : Word 1 := ⟨by decide, by decide⟩
  have hfw := field_w
  have hcl := class_fl 1 1 w1'
  have e1 : cls ((1 : Int) == 1) 1 = 2 := by decide +kernel
  rw [e1] at hcl
  have hsh : ∀ w, Calls Tryd.prog 58 #[.int .i64 1] w fun e w' => e = .returned (.agg #[.int .i64 32, .int .i64 23, .int .i64 (-149)]) ∧ ∃ o1, w' = w.alloc o1 := shapeOf_ex 1
  have hrp : ∀ w, Calls Tryd.prog 66 #[.string ⟨#[48]⟩, .int .i64 7] w fun e w' => e = .returned (.string ⟨#[48, 48, 48, 48, 48, 48, 48]⟩) ∧ Below w.heap.size w w' := fun w => (Tryd.strings_Repeat ⟨#[48]⟩ 7 w (by decide) (by decide)).mono fun e w' h => h
  go_enter Tryd.func32, Tryd.ntmps32
  go_wp2_with (first
    | (go_at_call 64; refine (hcl _).mono ?_; rintro e wa ⟨rfl, ba⟩; have ha := cell_on ba h)
    | (go_at_call 65; refine (fu1 _ ha).mono ?_; rintro e wb ⟨rfl, bb⟩)
    | (go_at_call 58; refine (hsh _).mono ?_; rintro e wc ⟨rfl, o1, rfl⟩)
    | (go_at_call 66; refine (hrp _).mono ?_; rintro e wd ⟨rfl, bd⟩)
    | fail)
  go_ret
  exact ⟨rfl, below_callC (below_new (below_callC ba bb) o1) bd⟩
theorem three : rnd true 0 false 3 0 = 1077936128 := by decide +kernel
set_option maxRecDepth 100000 in
set_option maxHeartbeats 3200000 in
theorem clive_any (w : World) (h : w.cell? ⟨5, 15, none⟩ = some (.int .u8 4)) : Calls Tryd.prog 12 #[] w fun e w' => e = .returned (.bool true) ∧ Below w.heap.size w w' := by
  have hli := lit01
  have hfr : ∀ w, Calls Tryd.prog 20 #[.int .i64 1, .int .i64 0, .int .i64 3] w fun e w' => e = .returned (.int .u64 1077936128) ∧ Below w.heap.size w w' := fun w => by
    have t := fromInt_any 1 0 3 (by decide) (by decide) w
    rw [show ((1 : Int) == 1) = true from rfl, show decide ((3 : Int) < 0) = false from rfl, show Int.natAbs 3 = 3 from rfl, three] at t
    exact t
  have hnx := next0
  have hhx := fun (w : World) h => hex1 w h
  go_enter Tryd.func12, Tryd.ntmps12
  go_wp2_with (first
    | (go_at_call 22; refine (hli _).mono ?_; rintro e w1 ⟨rfl, b1⟩; have h1 := cell_on b1 h)
    | (go_at_call 20; refine (hfr _).mono ?_; rintro e w2 ⟨rfl, b2⟩; have h2 := cell_on b2 h1)
    | (go_at_call 26; refine (hnx _).mono ?_; rintro e w3 ⟨rfl, b3⟩; have h3 := cell_on b3 h2)
    | (go_at_call 32; refine (hhx _ h3).mono ?_; rintro e w4 ⟨rfl, b4⟩)
    | fail)
  go_ret
  exact ⟨rfl, below_callC (below_callC (below_callC b1 b2) b3) b4⟩
end Go.Proofs.YtfdinlomlcnjnaaDoor

