/- operatorOf, operatorFor. -/
import Derived.Test.YtknoibocpbfmmaaGreatDoorPaE
import Derived.RangeFuncRecord
namespace Go.Proofs.YtknoibocpbfmmaaGreatDoor
open Go.RowKit
set_option linter.unusedVariables false
set_option linter.unusedSimpArgs false
theorem OpsAt.bel {W V : World} (h : OpsAt W) (k : Below W.heap.size W V) : OpsAt V := fun j v e => (k.cell (World.block_lt_of_cell? W _ (h j v e))).trans (h j v e)
theorem OpsAt.onl {W V : World} {b : Nat} (h : OpsAt W) (hb : b ≠ 0) (k : Onl b W V) : OpsAt V := fun j v e => k.cell (fun e => hb e.symm) (h j v e)
set_option maxRecDepth 100000 in
theorem op_load (V : World) (h : OpsAt V) : (Instr.loadAt 146 (.pointer (some ⟨0, 0, none⟩))).run Tryz.prog V = .ok (Value.agg (opC opT).toArray) V := by
  have hl : (loadCells ⟨0, 0, none⟩ 36).run Tryz.prog V = .ok (opC opT).toArray V := by
    have := run_loadCells_list (P := Tryz.prog) V ⟨0, 0, none⟩ (opC opT) (fun j v hv => by
      have := h j v hv
      rw [Go.WideShapes.add_plain, Nat.zero_add]
      exact this)
    exact this
  have ha : (isAgg 146).run Tryz.prog V = .ok true V := by kernel_rfl
  have hz : (sizeOf 146).run Tryz.prog V = .ok 36 V := by kernel_rfl
  simp only [Instr.loadAt, Instr.sureAddr, loadVar, Sem.run_bind, Sem.run_pure, Result.andThen, ha, hz, hl, if_true]
theorem wp_load_by {o : Oper} {a : Act} {w : World} {K : Act → World → Prop} {Q : Exit → Act → World → Prop} (ty : TypeId) (x : Operand) (ho : o.op = .load ty x) (p v : Value) (hx : a.eval x = p) (hr : (Instr.loadAt ty p).run Tryz.prog w = .ok v w) (h : K (a.put o.dst v) w) : o.wp Tryz.prog a w K Q := by
  unfold Oper.wp execOp
  simp only [ho, hx, Sem.run_bind, hr, Result.andThen_ok]
  exact h
theorem op_len {j : Nat} {x : Int × ByteArray × Int} (h : opT[j]? = some x) : j < 12 := (List.getElem?_eq_some_iff.1 h).1
set_option maxRecDepth 100000 in
set_option maxHeartbeats 1600000 in
theorem popOf (s : ByteArray) (w : World) (hO : OpsAt w) : Calls Tryz.prog 114 #[.string s] w fun e w' => (∃ x, e = .returned (.agg #[.int .i64 (opOf s).1, .string x, .int .i64 (opOf s).2]) ∧ ((opOf s).1 ≠ 0 → x = s)) ∧ Below w.heap.size w w' := by
  have on := @op_no s
  have oy := @op_yes
  obtain ⟨R1, hR1⟩ : ∃ R, (opOf s).1 = R := ⟨_, rfl⟩
  obtain ⟨R2, hR2⟩ : ∃ R, (opOf s).2 = R := ⟨_, rfl⟩
  rw [hR1, hR2]
  have on' : Hid ((∀ (j : Nat) x, opT[j]? = some x → x.2.1 ≠ s) → R1 = 0 ∧ R2 = 0) := fun h => by have := on h; rw [← hR1, ← hR2, this]; exact ⟨rfl, rfl⟩
  have oy' : Hid (∀ (j : Nat) (a l : Int), opT[j]? = some (a, s, l) → a = R1 ∧ l = R2) := fun j a l h => by have := oy h; rw [← hR1, ← hR2, this]; exact ⟨rfl, rfl⟩
  clear on oy hR1 hR2
  go_enter Tryz.func114, Tryz.ntmps114
  go_upto_region 1 with fail
  obtain ⟨W, hW⟩ : ∃ W, w.alloc (.cells #[.int .i64 0, .string ⟨#[]⟩, .int .i64 0] 133) = W := ⟨_, rfl⟩
  obtain ⟨p, hp⟩ : ∃ p, w.heap.size = p := ⟨_, rfl⟩
  have gW : Below w.heap.size w W := by rw [← hW]; exact pb_new (Below.refl _ _) _
  have x0 : W.heap[p]? = some (.cells #[.int .i64 0, .string ⟨#[]⟩, .int .i64 0] 133 (0, 0)) := by
    rw [← hW, ← hp]; exact World.alloc_heap_new w _
  have hO1 := hO.bel gW
  have ld := op_load W hO1
  rw [hW]
  (try rw [hp])
  clear hW hO1
  have ixs := op_index
  generalize Value.agg (opC opT).toArray = A at *
  refine wp_region_list ?_
  refine Eq.mpr (if_pos (by rfl)) (Or.inl ?_)
  refine wp_load_by 146 (.global 0) rfl _ _ rfl ld ?_
  go_upto_region 2 with fail
  clear ld
  go_loopw [6] (fun i wr => ∃ (j : Nat) (V : World), i = .int .i64 j ∧ j ≤ 12 ∧ Hid (∀ (k : Nat) x, k < j → opT[k]? = some x → x.2.1 ≠ s) ∧ V = wr ∧ V.heap[p]? = some (.cells #[.int .i64 0, .string ⟨#[]⟩, .int .i64 0] 133 (0, 0)) ∧ Below w.heap.size w V) (fun i _ => 12 - (intOf i).toNat)
  case atStart => exact ⟨0, W, rfl, by omega, fun k x h => by omega, rfl, x0, gW⟩
  case round =>
    clear x0 gW
    obtain ⟨j, V, rfl, hj, hx, e, x0, gV⟩ := hrel
    subst e
    have f0 : V.cell? ⟨p, 0, none⟩ = some (.int .i64 0) := by simp [World.cell?, x0]
    have f1 : V.cell? ⟨p, 1, none⟩ = some (.string ⟨#[]⟩) := by simp [World.cell?, x0]
    have f2 : V.cell? ⟨p, 2, none⟩ = some (.int .i64 0) := by simp [World.cell?, x0]
    have ff : ∀ k, V.frozen? ⟨p, k, none⟩ = false := fun k => by simp [World.frozen?, x0]
    have pV : p < V.heap.size := (Array.getElem?_eq_some_iff.1 x0).1
    have zp : p ≠ V.heap.size := by omega
    have zq : V.heap.size ≠ p := by omega
    by_cases cj : j < 12
    · have cj' : (j : Int) < 12 := by omega
      have wj : IntKind.i64.wrap ((j : Int) + 1) = ((j + 1 : Nat) : Int) := by rw [IntKind.wrap_i64]; omega
      obtain ⟨⟨a, t, l⟩, hxj⟩ : ∃ x, opT[j]? = some x := ⟨_, List.getElem?_eq_getElem (show j < opT.length from cj)⟩
      have ix := ixs j a l t hxj
      clear ixs
      by_cases ex : t = s
      · subst ex
        have ht : (t.toList == t.toList) = true := by simp
        obtain ⟨eR1, eR2⟩ := oy'.out j a l hxj
        have eR : Hid (a = R1 ∧ l = R2) := ⟨eR1, eR2⟩
        clear eR1 eR2 hx hxj on' oy'
        go_wp2_with fail
        obtain ⟨rfl, rfl⟩ := eR.out
        exact bodyPost_ret (v := .agg #[.int .i64 a, .string t, .int .i64 l]) (by simp [results, Tryz.results114, go_sem, zp, zq, pV, Nat.ne_of_lt pV, f0, f1, f2, ff]) rfl ⟨⟨t, rfl, fun _ => rfl⟩, by rw [← hp] at *; exact pb_new (pb_set (pb_set (pb_set gV (Nat.le_refl _) _) (Nat.le_refl _) _) (Nat.le_refl _) _) _⟩
      · have ht := txt_no ex
        have hx2 : Hid (∀ (k : Nat) x, k < j + 1 → opT[k]? = some x → x.2.1 ≠ s) := fun k x h e => by
          rcases (show k < j ∨ k = j by omega) with h | h
          · exact hx.out k x h e
          · rw [h, hxj] at e; cases e; exact ex
        have x02 := (Below.heap_alloc V (.cells #[.int .i64 a, .string t, .int .i64 l] 133) p pV).trans x0
        clear hx hxj ex on' oy'
        go_wp2_with fail
        exact ⟨⟨j + 1, _, by go_num, by omega, hx2, rfl, x02, by rw [← hp] at *; exact pb_new gV _⟩, by simp [intOf]; omega⟩
    · obtain rfl : j = 12 := by omega
      obtain ⟨rfl, rfl⟩ := on'.out fun k x e => hx.out k x (op_len e) e
      clear hx on' oy'
      go_wp2_with fail
      exact bodyPost_ret (v := .agg #[.int .i64 0, .string ⟨#[]⟩, .int .i64 0]) (by simp [results, Tryz.results114, go_sem, f0, f1, f2]) rfl ⟨⟨_, rfl, fun h => absurd rfl h⟩, by rw [← hp] at *; first | exact gV | exact pb_set (pb_set (pb_set gV (Nat.le_refl _) _) (Nat.le_refl _) _) (Nat.le_refl _) _⟩
end Go.Proofs.YtknoibocpbfmmaaGreatDoor
