/- New -/
import Derived.Test.YtpcbammncaeimaaOcB
import Derived.Laws.Tables
namespace Go.Proofs.Ytpcbammncaeimaa
open Go.RowKit
set_option linter.unusedVariables false
set_option linter.unusedSimpArgs false
set_option maxRecDepth 100000 in
theorem obx (V : Array Value) (w : World) : (Instr.box 70 (.agg V)).run Try.prog w = .ok (.pointer (some ⟨w.heap.size, 0, none⟩)) (w.alloc (.cells V 70)) := by
  simp [Instr.box, newVar, newRow, Value.cells]
theorem zc0 (x : Value) : (#[x, .bool false] ++ Array.replicate 256 (.int .i64 0) : Array Value)[0]? = some x := by
  rw [Array.getElem?_append_left (by simp)]; rfl
theorem zc1 (x : Value) : (#[x, .bool false] ++ Array.replicate 256 (.int .i64 0) : Array Value)[1]? = some (.bool false) := by
  rw [Array.getElem?_append_left (by simp)]; rfl
theorem zc2 (x : Value) (k : Nat) (hk : k < 256) : (#[x, .bool false] ++ Array.replicate 256 (.int .i64 0) : Array Value)[2 + k]? = some (.int .i64 0) := by
  rw [Array.getElem?_append_right (by simp), Array.getElem?_replicate, if_pos (by simp; omega)]
theorem ocl (V : Array Value) (k : Nat) (w : World) : (w.alloc (.cells V 70)).cell? ⟨w.heap.size, k, none⟩ = V[k]? := by
  simp [go_sem]
set_option maxRecDepth 100000 in
set_option maxHeartbeats 3200000 in
theorem onew (n : Nat) (h1 : 1 ≤ n) (h8 : n ≤ 8) (w : World) : Calls Try.prog 31 #[.int .i64 n] w fun r w' => r = .returned (.pointer (some ⟨w.heap.size, 0, none⟩)) ∧ (∃ M, OctAt w' w.heap.size n false M ∧ ∀ a c, a < 2 * n → c < 2 * n → M a c = bx a c) ∧ Below w.heap.size w w' := by
  have g1 : ¬ (n : Int) < 1 := by omega
  have g2 : ¬ (8 : Int) < (n : Int) := by omega
  go_enter Try.func31, Try.ntmps31
  go_upto_region 3 with fail
  go_step
  go_step
  go_step
  go_step
  refine wpList_build rfl 70 _ rfl (by kernel_rfl) ?_
  generalize hV : (Program.built Try.prog 70 _).getD #[] = V
  have hV2 : V = #[.int .i64 n, .bool false] ++ Array.replicate 256 (.int .i64 0) := hV.symm.trans (by kernel_rfl)
  clear hV
  have hO : OctAt (w.alloc (.cells V 70)) w.heap.size n false (fun _ _ => 0) := by
    refine ⟨?_, ?_, fun i j hi hj => ?_, fun k => by simp [go_sem]⟩
    · rw [ocl, hV2]; exact zc0 _
    · rw [ocl, hV2]; exact zc1 _
    · rw [ocl, hV2, show 2 + i * 16 + j = 2 + (i * 16 + j) by omega]; exact zc2 _ _ (by omega)
  have bW : Below w.heap.size w (w.alloc (.cells V 70)) := (Below.refl _ _).alloc (Nat.le_refl _) _
  clear hV2
  have kf := ofill w.heap.size n (2 * n) false (fun _ _ => 0) rfl (by omega) 65 #[] (fun a v => enters_of Try.func65 (by kernel_rfl) rfl a v) bx (fun _ => True) (fun _ _ _ _ => trivial) (fun a c V ha hc _ => (obox a c (by omega) (by omega) V).mono fun r w' q => ⟨q.1, 0, q.2⟩) _ hO trivial
  clear hO
  go_wp2_with (first
    | (go_at_call 64; refine kf.mono ?_; rintro r w1 ⟨rfl, hO, cc⟩)
    | fail)
  go_ret
  refine ⟨rfl, ⟨_, hO, fun a c ha hc => pm_all _ _ ha hc⟩, ?_⟩
  exact ⟨cc.os.trans bW.os, cc.tape.trans bW.tape, cc.output.trans bW.output, Nat.le_trans bW.size cc.size, fun k hk => (cc.block k (Nat.lt_of_lt_of_le hk bW.size) (by omega)).trans (bW.block k hk)⟩
end Go.Proofs.Ytpcbammncaeimaa
