/- Flat values (ranges, arrays of two, pairs of ranges), opened and shut. -/
import Derived.Test.YtpcbammncaeimaaRows
import Derived.ProofKit
import Derived.OpenShut
import Derived.ChangeOld
import Derived.Lib.SmallJoins
import Derived.Deep.Strs
namespace Go.Proofs.Ytpcbammncaeimaa
open Go.ChangeShapes Go.WideShapes Go.ChangeAt Go.RowKit Go.Joins Go.Deep
set_option linter.unusedVariables false
set_option linter.unusedSimpArgs false
set_option maxRecDepth 100000 in
theorem sc39 : Try.prog.cellsOf 39 = 3 := by kernel_rfl
set_option maxRecDepth 100000 in
theorem sc4 : Try.prog.cellsOf 4 = 1 := by kernel_rfl
set_option maxRecDepth 100000 in
theorem sc2 : Try.prog.cellsOf 2 = 1 := by kernel_rfl
theorem sp_array2 {α : Type} {cs : Array α} (h : cs.size = 2) : ∃ c0 c1, cs = #[c0, c1] := by
  obtain ⟨l⟩ := cs
  match l, h with
  | [c0, c1], _ => exact ⟨c0, c1, rfl⟩
theorem sp_array3 {α : Type} {cs : Array α} (h : cs.size = 3) : ∃ c0 c1 c2, cs = #[c0, c1, c2] := by
  obtain ⟨l⟩ := cs
  match l, h with
  | [c0, c1, c2], _ => exact ⟨c0, c1, c2, rfl⟩
theorem sp_array6 {α : Type} {cs : Array α} (h : cs.size = 6) : ∃ c0 c1 c2 c3 c4 c5, cs = #[c0, c1, c2, c3, c4, c5] := by
  obtain ⟨l⟩ := cs
  match l, h with
  | [c0, c1, c2, c3, c4, c5], _ => exact ⟨c0, c1, c2, c3, c4, c5, rfl⟩
theorem sp_array7 {α : Type} {cs : Array α} (h : cs.size = 7) : ∃ c0 c1 c2 c3 c4 c5 c6, cs = #[c0, c1, c2, c3, c4, c5, c6] := by
  obtain ⟨l⟩ := cs
  match l, h with
  | [c0, c1, c2, c3, c4, c5, c6], _ => exact ⟨c0, c1, c2, c3, c4, c5, c6, rfl⟩
section
variable {H : Type} {enc : TypeId × Value → H} {w : World} {base : Nat} {spare : Nat → Bool} {held : Bool}
set_option maxRecDepth 100000 in
theorem sp_bool {n : Nat} {c : Value} {y : DataW H × List MemPlace} (h : DataW.trod enc Try.prog w base spare held n 4 [c] = some y) : ∃ b : Bool, c = .bool b ∧ y = (.lit (.bool b), []) := by
  cases n with
  | zero => simp [DataW.trod] at h
  | succ n =>
    unfold DataW.trod at h
    rw [Try.underlying4] at h
    cases c <;> simp at h
    exact ⟨_, rfl, h.symm⟩
theorem sp_okarr {P : Program} {t e : TypeId} {k : Nat} {r : Reach} {b0 : Nat} {v : Value} (ht : P.underlying t = some (.array k e)) (h : Value.okWide P w r b0 t v) : ∃ cs, v = .agg cs ∧ cs.size = P.cellsOf t := by
  simp only [Value.okWide, ht] at h
  obtain ⟨cs, h1, h2, _⟩ := h
  exact ⟨cs, h1, h2⟩
theorem sp_arr2_1 {P : Program} {t e : TypeId} {fuel : Nat} {c0 d0 : Value} {x : DataW H × List MemPlace} (ht : P.underlying t = some (.array 2 e)) (hce : P.cellsOf e = 1)
    (h : DataW.trod enc P w base spare held fuel t [c0, d0] = some x) :
    ∃ y0 y1 n, x = (.agg [y0.1, y1.1], y0.2 ++ y1.2) ∧ DataW.trod enc P w base spare held n e [c0] = some y0 ∧ DataW.trod enc P w base spare held n e [d0] = some y1 := by
  cases fuel with
  | zero => simp [DataW.trod] at h
  | succ n =>
    unfold DataW.trod at h
    rw [ht] at h
    have r2 : List.range 2 = [0, 1] := rfl
    simp [r2, hce] at h
    obtain ⟨_, h⟩ := h
    cases h0 : DataW.trod enc P w base spare held n e [c0] with
    | none => simp [h0] at h
    | some y0 =>
      cases h1 : DataW.trod enc P w base spare held n e [d0] with
      | none => simp [h0, h1] at h
      | some y1 =>
        simp [h0, h1] at h
        exact ⟨y0, y1, n, h.symm, h0, h1⟩
theorem sp_arr2_1_mk {P : Program} {t e : TypeId} {n : Nat} {c0 d0 : Value} {y0 y1 : DataW H × List MemPlace} (ht : P.underlying t = some (.array 2 e)) (hce : P.cellsOf e = 1) (hC : P.cellsOf t = 2)
    (h0 : DataW.trod enc P w base spare held n e [c0] = some y0) (h1 : DataW.trod enc P w base spare held n e [d0] = some y1) :
    DataW.trod enc P w base spare held (n + 1) t [c0, d0] = some (.agg [y0.1, y1.1], y0.2 ++ y1.2) := by
  unfold DataW.trod
  rw [ht]
  have r2 : List.range 2 = [0, 1] := rfl
  simp [r2, hce, hC, h0, h1]
theorem sp_arr2_3 {P : Program} {t e : TypeId} {fuel : Nat} {c0 c1 c2 d0 d1 d2 : Value} {x : DataW H × List MemPlace} (ht : P.underlying t = some (.array 2 e)) (hce : P.cellsOf e = 3)
    (h : DataW.trod enc P w base spare held fuel t [c0, c1, c2, d0, d1, d2] = some x) :
    ∃ y0 y1 n, x = (.agg [y0.1, y1.1], y0.2 ++ y1.2) ∧ DataW.trod enc P w base spare held n e [c0, c1, c2] = some y0 ∧ DataW.trod enc P w base spare held n e [d0, d1, d2] = some y1 := by
  cases fuel with
  | zero => simp [DataW.trod] at h
  | succ n =>
    unfold DataW.trod at h
    rw [ht] at h
    have r2 : List.range 2 = [0, 1] := rfl
    simp [r2, hce] at h
    obtain ⟨_, h⟩ := h
    cases h0 : DataW.trod enc P w base spare held n e [c0, c1, c2] with
    | none => simp [h0] at h
    | some y0 =>
      cases h1 : DataW.trod enc P w base spare held n e [d0, d1, d2] with
      | none => simp [h0, h1] at h
      | some y1 =>
        simp [h0, h1] at h
        exact ⟨y0, y1, n, h.symm, h0, h1⟩
theorem sp_arr2_3_mk {P : Program} {t e : TypeId} {n : Nat} {c0 c1 c2 d0 d1 d2 : Value} {y0 y1 : DataW H × List MemPlace} (ht : P.underlying t = some (.array 2 e)) (hce : P.cellsOf e = 3) (hC : P.cellsOf t = 6)
    (h0 : DataW.trod enc P w base spare held n e [c0, c1, c2] = some y0) (h1 : DataW.trod enc P w base spare held n e [d0, d1, d2] = some y1) :
    DataW.trod enc P w base spare held (n + 1) t [c0, c1, c2, d0, d1, d2] = some (.agg [y0.1, y1.1], y0.2 ++ y1.2) := by
  unfold DataW.trod
  rw [ht]
  have r2 : List.range 2 = [0, 1] := rfl
  simp [r2, hce, hC, h0, h1]
theorem sp_up {t : TypeId} {n m : Nat} {cs : List Value} {x : DataW H × List MemPlace} (h : DataW.trod enc Try.prog w base spare held n t cs = some x) (le : n ≤ m) : DataW.trod enc Try.prog w base spare held m t cs = some x := DataW.trod_le le h
set_option maxRecDepth 100000 in
theorem open_ir {r : Reach} {b0 : Nat} {v : Value} {d : DataW H} {p : List MemPlace} (hv : Value.okWide Try.prog w r b0 39 v) (h : DataW.Trod enc Try.prog w base spare held 39 v d p) :
    ∃ (b1 : Bool) (x2 : Int) (x3 : Int), v = .agg #[.bool b1, .int .i64 x2, .int .i64 x3] ∧ d = .agg [.lit (.bool b1), .lit (.int .i64 x2), .lit (.int .i64 x3)] ∧ p = [] ∧ (Lit.int .i64 x2).wf = true ∧ (Lit.int .i64 x3).wf = true := by
  obtain ⟨cs, rfl, hsz⟩ := okWide_struct Try.underlying39 hv
  obtain ⟨c0, c1, c2, rfl⟩ := sp_array3 (hsz.trans sc39)
  obtain ⟨fuel, hf⟩ := h
  obtain ⟨y0_0, y0_1, y0_2, n0, hx, _, h0_0, h0_1, h0_2⟩ := trod_struct3 Try.underlying39 hf
  simp only [Value.cells, sc4, sc2] at h0_0 h0_1 h0_2
  obtain ⟨b1, rfl, rfl⟩ := sp_bool h0_0
  obtain ⟨x2, ex2, rfl, wx2⟩ := DataW.trod_int Try.underlying2 h0_1
  simp at ex2
  subst ex2
  obtain ⟨x3, ex3, rfl, wx3⟩ := DataW.trod_int Try.underlying2 h0_2
  simp at ex3
  subst ex3
  simp only [Prod.mk.injEq, List.append_nil] at hx
  exact ⟨b1, x2, x3, rfl, hx.1, hx.2, wx2, wx3⟩
set_option maxRecDepth 100000 in
theorem shut_ir (b1 : Bool) {x2 x3 : Int} (wx2 : (Lit.int .i64 x2).wf = true) (wx3 : (Lit.int .i64 x3).wf = true) :
    DataW.Trod enc Try.prog w base spare held 39 (.agg #[.bool b1, .int .i64 x2, .int .i64 x3]) (.agg [.lit (.bool b1), .lit (.int .i64 x2), .lit (.int .i64 x3)]) [] := by
  have t0 : DataW.trod enc Try.prog w base spare held 2 39 [.bool b1, .int .i64 x2, .int .i64 x3] = some (.agg [.lit (.bool b1), .lit (.int .i64 x2), .lit (.int .i64 x3)], []) := by
    have := trod_struct3_mk (enc := enc) (w := w) (base := base) (spare := spare) (held := held) (n := 1) (cs := [.bool b1, .int .i64 x2, .int .i64 x3]) (y0 := (.lit (.bool b1), [])) (y1 := (.lit (.int .i64 x2), [])) (y2 := (.lit (.int .i64 x3), [])) Try.underlying39 (by simp [sc39]) (by simpa [sc4] using (sp_up (by simp [DataW.trod, Try.underlying4] : DataW.trod enc Try.prog w base spare held 1 4 [.bool b1] = some (.lit (.bool b1), [])) (by decide))) (by simpa [sc2] using (sp_up (by simp [DataW.trod, Try.underlying2, wx2] : DataW.trod enc Try.prog w base spare held 1 2 [.int .i64 x2] = some (.lit (.int .i64 x2), [])) (by decide))) (by simpa [sc2] using (sp_up (by simp [DataW.trod, Try.underlying2, wx3] : DataW.trod enc Try.prog w base spare held 1 2 [.int .i64 x3] = some (.lit (.int .i64 x3), [])) (by decide)))
    simpa using this
  exact ⟨2, by simpa [Value.cells] using t0⟩
end
end Go.Proofs.Ytpcbammncaeimaa

