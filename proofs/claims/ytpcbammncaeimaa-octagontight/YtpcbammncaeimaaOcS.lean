/- octagon: Fork: a whole one, loaded and stored. -/
import Derived.Test.YtpcbammncaeimaaOcH
import Derived.Test.YtpcbammncaeimaaOcC
import Derived.Deep.WholeRow
import Derived.Laws.Cells
namespace Go.Proofs.Ytpcbammncaeimaa
open Go.RowKit
set_option linter.unusedVariables false
set_option linter.unusedSimpArgs false
/-- All cells of one. -/
def octC (n : Nat) (e : Bool) (M : Mx) : List Value := .int .i64 n :: .bool e :: (List.range 256).map fun k => .int .i64 (M (k / 16) (k % 16))
theorem octC_len (n : Nat) (e : Bool) (M : Mx) : (octC n e M).length = 258 := by simp [octC]
theorem octC_at (n : Nat) (e : Bool) (M : Mx) (k : Nat) (hk : k < 256) : (octC n e M)[2 + k]? = some (.int .i64 (M (k / 16) (k % 16))) := by
  rw [show 2 + k = k + 1 + 1 by omega]
  simp [octC, hk]
set_option maxRecDepth 100000 in
theorem oload (b n : Nat) (e : Bool) (M : Mx) (w : World) (h : OctAt w b n e M) : (Instr.loadAt 70 (.pointer (some ⟨b, 0, none⟩))).run Try.prog w = .ok (.agg (octC n e M).toArray) w := by
  have hl : (loadCells ⟨b, 0, none⟩ 258).run Try.prog w = .ok (octC n e M).toArray w := by
    have := run_loadCells_list (P := Try.prog) w ⟨b, 0, none⟩ (octC n e M) (fun j v hv => by
      rw [Go.WideShapes.add_plain, Nat.zero_add]
      have hj : j < 258 := by rw [← octC_len n e M]; exact (List.getElem?_eq_some_iff.1 hv).1
      match j, hj, hv with
      | 0, _, hv => cases hv; exact h.hv
      | 1, _, hv => cases hv; exact h.he
      | k + 2, hj, hv =>
        have hk := octC_at n e M k (by omega)
        rw [show 2 + k = k + 2 by omega] at hk
        rw [hk] at hv
        cases hv
        have := h.hm (k / 16) (k % 16) (by omega) (by omega)
        rw [show 2 + k / 16 * 16 + k % 16 = k + 2 by omega] at this
        exact this)
    rw [octC_len] at this
    exact this
  have ha : (isAgg 70).run Try.prog w = .ok true w := by kernel_rfl
  have hz : (sizeOf 70).run Try.prog w = .ok 258 w := by kernel_rfl
  simp only [Instr.loadAt, Instr.sureAddr, loadVar, Sem.run_bind, Sem.run_pure, Result.andThen, ha, hz, hl, if_true]
theorem OctAt.made (n : Nat) (e : Bool) (M : Mx) (w : World) : OctAt (w.alloc (.cells (octC n e M).toArray 70)) w.heap.size n e M := by
  have hc : ∀ k, (w.alloc (.cells (octC n e M).toArray 70)).cell? ⟨w.heap.size, k, none⟩ = (octC n e M)[k]? := fun k => by rw [ocl]; simp
  refine ⟨by rw [hc]; rfl, by rw [hc]; rfl, fun i j hi hj => ?_, fun k => by simp [go_sem]⟩
  rw [hc, show 2 + i * 16 + j = 2 + (i * 16 + j) by omega, octC_at n e M _ (by omega), show (i * 16 + j) / 16 = i by omega, show (i * 16 + j) % 16 = j by omega]
/-- The cells of a new one. -/
def zC : Array Value := #[.int .i64 0, .bool false] ++ Array.replicate 256 (.int .i64 0)
set_option maxRecDepth 100000 in
theorem oalloc (w : World) : (Instr.alloc 70 true (.tuple #[])).run Try.prog w = .ok (.pointer (some ⟨w.heap.size, 0, none⟩)) (w.alloc (.cells zC 70)) := by kernel_rfl
set_option maxRecDepth 100000 in
theorem ostore (n : Nat) (e : Bool) (M : Mx) (w : World) : (Instr.storeAt 70 (.pointer (some ⟨w.heap.size, 0, none⟩)) (.agg (octC n e M).toArray)).run Try.prog (w.alloc (.cells zC 70)) = .ok () (w.alloc (.cells (octC n e M).toArray 70)) :=
  run_storeAt_new w 70 zC _ (by rw [List.size_toArray, octC_len]; kernel_rfl) (by rw [show (octC n e M).toArray.size = 258 by rw [List.size_toArray, octC_len]]; simp [zC]) (by
    rw [Array.all_eq_true']
    intro x hx
    simp only [octC, List.mem_toArray, List.mem_cons, List.mem_map] at hx
    rcases hx with rfl | rfl | ⟨k, _, rfl⟩ <;> rfl)
theorem wp_load_by {o : Oper} {a : Act} {w : World} {K : Act → World → Prop} {Q : Exit → Act → World → Prop} (ty : TypeId) (x : Operand) (ho : o.op = .load ty x) (p v : Value) (hx : a.eval x = p) (hr : (Instr.loadAt ty p).run Try.prog w = .ok v w) (h : K (a.put o.dst v) w) : o.wp Try.prog a w K Q := by
  unfold Oper.wp execOp
  simp only [ho, hx, Sem.run_bind, hr, Result.andThen_ok]
  exact h
theorem wp_alloc_by {o : Oper} {a : Act} {w w' : World} {K : Act → World → Prop} {Q : Exit → Act → World → Prop} (ty : TypeId) (ho : o.op = .alloc ty) (v : Value) (hr : (Instr.alloc ty true (.tuple #[])).run Try.prog w = .ok v w') (h : K (a.put o.dst v) w') : o.wp Try.prog a w K Q := by
  unfold Oper.wp execOp
  simp only [ho, Sem.run_bind, hr, Result.andThen_ok]
  exact h
theorem wp_store_by {o : Oper} {a : Act} {w w' : World} {K : Act → World → Prop} {Q : Exit → Act → World → Prop} (ty : TypeId) (x y : Operand) (ho : o.op = .store ty x y) (p v : Value) (hx : a.eval x = p) (hy : a.eval y = v) (hr : (Instr.storeAt ty p v).run Try.prog w = .ok () w') (h : K (a.put o.dst undef) w') : o.wp Try.prog a w K Q := by
  unfold Oper.wp execOp
  simp only [ho, hx, hy, Sem.run_bind, hr, Result.andThen_ok]
  exact h
set_option maxRecDepth 100000 in
set_option maxHeartbeats 800000 in
theorem ofork (b n : Nat) (e : Bool) (M : Mx) (w : World) (h : OctAt w b n e M) : Calls Try.prog 19 #[.pointer (some ⟨b, 0, none⟩)] w fun r w' => r = .returned (.pointer (some ⟨w.heap.size, 0, none⟩)) ∧ OctAt w' w.heap.size n e M ∧ Below w.heap.size w w' := by
  have h1 := oload b n e M w h
  have h2 := oalloc w
  have h3 := ostore n e M w
  have h4 := OctAt.made n e M w
  have h5 : Below w.heap.size w (w.alloc (.cells (octC n e M).toArray 70)) := (Below.refl _ _).alloc (Nat.le_refl _) _
  generalize (octC n e M).toArray = C at *
  generalize zC = Z at *
  clear h
  go_enter Try.func19, Try.ntmps19
  go_wp2_with fail
  refine wp_load_by 70 (.tmp 7) rfl _ _ rfl h1 ?_
  go_step
  go_step
  refine wp_alloc_by 70 rfl _ h2 ?_
  go_step
  go_step
  trace_state
  refine wp_store_by 70 (.tmp 3) (.tmp 8) rfl _ _ rfl rfl h3 ?_
  go_wp2_with fail
  trace_state
  go_ret
  exact ⟨rfl, h4, h5⟩
end Go.Proofs.Ytpcbammncaeimaa
