/- Flat values (ranges, arrays of two, pairs of ranges), opened and shut. -/
import Derived.Test.YteafnkimcidkhaaGreatRows
import Derived.ProofKit
import Derived.OpenShut
import Derived.ChangeOld
import Derived.Lib.SmallJoins
import Derived.Deep.Strs
namespace Go.Proofs.YteafnkimcidkhaaGreat
open Go.ChangeShapes Go.WideShapes Go.ChangeAt Go.RowKit Go.Joins Go.Deep
set_option linter.unusedVariables false
set_option linter.unusedSimpArgs false
set_option maxRecDepth 100000 in
theorem sc4 : Tryz.prog.cellsOf 4 = 1 := by kernel_rfl
set_option maxRecDepth 100000 in
theorem sc2 : Tryz.prog.cellsOf 2 = 1 := by kernel_rfl
set_option maxRecDepth 100000 in
theorem sc24 : Tryz.prog.cellsOf 24 = 3 := by kernel_rfl
set_option maxRecDepth 100000 in
theorem sc22 : Tryz.prog.cellsOf 22 = 1 := by kernel_rfl
set_option maxRecDepth 100000 in
theorem sc66 : Tryz.prog.cellsOf 66 = 2 := by kernel_rfl
set_option maxRecDepth 100000 in
theorem sc143 : Tryz.prog.cellsOf 143 = 2 := by kernel_rfl
set_option maxRecDepth 100000 in
theorem sc57 : Tryz.prog.cellsOf 57 = 1 := by kernel_rfl
theorem sp_array2 {α : Type} {cs : Array α} (h : cs.size = 2) : ∃ c0 c1, cs = #[c0, c1] := by
  obtain ⟨l⟩ := cs
  match l, h with
  | [c0, c1], _ => exact ⟨c0, c1, rfl⟩
theorem sp_array3 {α : Type} {cs : Array α} (h : cs.size = 3) : ∃ c0 c1 c2, cs = #[c0, c1, c2] := by
  obtain ⟨l⟩ := cs
  match l, h with
  | [c0, c1, c2], _ => exact ⟨c0, c1, c2, rfl⟩
theorem sp_array6 {α : Type} {cs : Array α} (h : cs.size = 6) : ∃ c0 c1 c2 c3 c4 c5, cs = #[c0, c1, c2, c3, c4, c5] := by
  obtain ⟨l⟩ := cs
  match l, h with
  | [c0, c1, c2, c3, c4, c5], _ => exact ⟨c0, c1, c2, c3, c4, c5, rfl⟩
theorem sp_array7 {α : Type} {cs : Array α} (h : cs.size = 7) : ∃ c0 c1 c2 c3 c4 c5 c6, cs = #[c0, c1, c2, c3, c4, c5, c6] := by
  obtain ⟨l⟩ := cs
  match l, h with
  | [c0, c1, c2, c3, c4, c5, c6], _ => exact ⟨c0, c1, c2, c3, c4, c5, c6, rfl⟩
section
variable {H : Type} {enc : TypeId × Value → H} {w : World} {base : Nat} {spare : Nat → Bool} {held : Bool}
set_option maxRecDepth 100000 in
theorem sp_bool {n : Nat} {c : Value} {y : DataW H × List MemPlace} (h : DataW.trod enc Tryz.prog w base spare held n 4 [c] = some y) : ∃ b : Bool, c = .bool b ∧ y = (.lit (.bool b), []) := by
  cases n with
  | zero => simp [DataW.trod] at h
  | succ n =>
    unfold DataW.trod at h
    rw [Tryz.underlying4] at h
    cases c <;> simp at h
    exact ⟨_, rfl, h.symm⟩
theorem sp_okarr {P : Program} {t e : TypeId} {k : Nat} {r : Reach} {b0 : Nat} {v : Value} (ht : P.underlying t = some (.array k e)) (h : Value.okWide P w r b0 t v) : ∃ cs, v = .agg cs ∧ cs.size = P.cellsOf t := by
  simp only [Value.okWide, ht] at h
  obtain ⟨cs, h1, h2, _⟩ := h
  exact ⟨cs, h1, h2⟩
theorem sp_arr2_1 {P : Program} {t e : TypeId} {fuel : Nat} {c0 d0 : Value} {x : DataW H × List MemPlace} (ht : P.underlying t = some (.array 2 e)) (hce : P.cellsOf e = 1)
    (h : DataW.trod enc P w base spare held fuel t [c0, d0] = some x) :
    ∃ y0 y1 n, x = (.agg [y0.1, y1.1], y0.2 ++ y1.2) ∧ DataW.trod enc P w base spare held n e [c0] = some y0 ∧ DataW.trod enc P w base spare held n e [d0] = some y1 := by
  cases fuel with
  | zero => simp [DataW.trod] at h
  | succ n =>
    unfold DataW.trod at h
    rw [ht] at h
    have r2 : List.range 2 = [0, 1] := rfl
    simp [r2, hce] at h
    obtain ⟨_, h⟩ := h
    cases h0 : DataW.trod enc P w base spare held n e [c0] with
    | none => simp [h0] at h
    | some y0 =>
      cases h1 : DataW.trod enc P w base spare held n e [d0] with
      | none => simp [h0, h1] at h
      | some y1 =>
        simp [h0, h1] at h
        exact ⟨y0, y1, n, h.symm, h0, h1⟩
theorem sp_arr2_1_mk {P : Program} {t e : TypeId} {n : Nat} {c0 d0 : Value} {y0 y1 : DataW H × List MemPlace} (ht : P.underlying t = some (.array 2 e)) (hce : P.cellsOf e = 1) (hC : P.cellsOf t = 2)
    (h0 : DataW.trod enc P w base spare held n e [c0] = some y0) (h1 : DataW.trod enc P w base spare held n e [d0] = some y1) :
    DataW.trod enc P w base spare held (n + 1) t [c0, d0] = some (.agg [y0.1, y1.1], y0.2 ++ y1.2) := by
  unfold DataW.trod
  rw [ht]
  have r2 : List.range 2 = [0, 1] := rfl
  simp [r2, hce, hC, h0, h1]
theorem sp_arr2_3 {P : Program} {t e : TypeId} {fuel : Nat} {c0 c1 c2 d0 d1 d2 : Value} {x : DataW H × List MemPlace} (ht : P.underlying t = some (.array 2 e)) (hce : P.cellsOf e = 3)
    (h : DataW.trod enc P w base spare held fuel t [c0, c1, c2, d0, d1, d2] = some x) :
    ∃ y0 y1 n, x = (.agg [y0.1, y1.1], y0.2 ++ y1.2) ∧ DataW.trod enc P w base spare held n e [c0, c1, c2] = some y0 ∧ DataW.trod enc P w base spare held n e [d0, d1, d2] = some y1 := by
  cases fuel with
  | zero => simp [DataW.trod] at h
  | succ n =>
    unfold DataW.trod at h
    rw [ht] at h
    have r2 : List.range 2 = [0, 1] := rfl
    simp [r2, hce] at h
    obtain ⟨_, h⟩ := h
    cases h0 : DataW.trod enc P w base spare held n e [c0, c1, c2] with
    | none => simp [h0] at h
    | some y0 =>
      cases h1 : DataW.trod enc P w base spare held n e [d0, d1, d2] with
      | none => simp [h0, h1] at h
      | some y1 =>
        simp [h0, h1] at h
        exact ⟨y0, y1, n, h.symm, h0, h1⟩
theorem sp_arr2_3_mk {P : Program} {t e : TypeId} {n : Nat} {c0 c1 c2 d0 d1 d2 : Value} {y0 y1 : DataW H × List MemPlace} (ht : P.underlying t = some (.array 2 e)) (hce : P.cellsOf e = 3) (hC : P.cellsOf t = 6)
    (h0 : DataW.trod enc P w base spare held n e [c0, c1, c2] = some y0) (h1 : DataW.trod enc P w base spare held n e [d0, d1, d2] = some y1) :
    DataW.trod enc P w base spare held (n + 1) t [c0, c1, c2, d0, d1, d2] = some (.agg [y0.1, y1.1], y0.2 ++ y1.2) := by
  unfold DataW.trod
  rw [ht]
  have r2 : List.range 2 = [0, 1] := rfl
  simp [r2, hce, hC, h0, h1]
theorem sp_up {t : TypeId} {n m : Nat} {cs : List Value} {x : DataW H × List MemPlace} (h : DataW.trod enc Tryz.prog w base spare held n t cs = some x) (le : n ≤ m) : DataW.trod enc Tryz.prog w base spare held m t cs = some x := DataW.trod_le le h
set_option maxRecDepth 100000 in
theorem open_fr {r : Reach} {b0 : Nat} {v : Value} {d : DataW H} {p : List MemPlace} (hv : Value.okWide Tryz.prog w r b0 24 v) (h : DataW.Trod enc Tryz.prog w base spare held 24 v d p) :
    ∃ (b1 : Bool) (x2 : Int) (x3 : Int), v = .agg #[.bool b1, .int .u64 x2, .int .u64 x3] ∧ d = .agg [.lit (.bool b1), .lit (.int .u64 x2), .lit (.int .u64 x3)] ∧ p = [] ∧ (Lit.int .u64 x2).wf = true ∧ (Lit.int .u64 x3).wf = true := by
  obtain ⟨cs, rfl, hsz⟩ := okWide_struct Tryz.underlying24 hv
  obtain ⟨c0, c1, c2, rfl⟩ := sp_array3 (hsz.trans sc24)
  obtain ⟨fuel, hf⟩ := h
  obtain ⟨y0_0, y0_1, y0_2, n0, hx, _, h0_0, h0_1, h0_2⟩ := trod_struct3 Tryz.underlying24 hf
  simp only [Value.cells, sc4, sc22] at h0_0 h0_1 h0_2
  obtain ⟨b1, rfl, rfl⟩ := sp_bool h0_0
  obtain ⟨x2, ex2, rfl, wx2⟩ := DataW.trod_int Tryz.underlying22 h0_1
  simp at ex2
  subst ex2
  obtain ⟨x3, ex3, rfl, wx3⟩ := DataW.trod_int Tryz.underlying22 h0_2
  simp at ex3
  subst ex3
  simp only [Prod.mk.injEq, List.append_nil] at hx
  exact ⟨b1, x2, x3, rfl, hx.1, hx.2, wx2, wx3⟩
set_option maxRecDepth 100000 in
theorem shut_fr (b1 : Bool) {x2 x3 : Int} (wx2 : (Lit.int .u64 x2).wf = true) (wx3 : (Lit.int .u64 x3).wf = true) :
    DataW.Trod enc Tryz.prog w base spare held 24 (.agg #[.bool b1, .int .u64 x2, .int .u64 x3]) (.agg [.lit (.bool b1), .lit (.int .u64 x2), .lit (.int .u64 x3)]) [] := by
  have t0 : DataW.trod enc Tryz.prog w base spare held 2 24 [.bool b1, .int .u64 x2, .int .u64 x3] = some (.agg [.lit (.bool b1), .lit (.int .u64 x2), .lit (.int .u64 x3)], []) := by
    have := trod_struct3_mk (enc := enc) (w := w) (base := base) (spare := spare) (held := held) (n := 1) (cs := [.bool b1, .int .u64 x2, .int .u64 x3]) (y0 := (.lit (.bool b1), [])) (y1 := (.lit (.int .u64 x2), [])) (y2 := (.lit (.int .u64 x3), [])) Tryz.underlying24 (by simp [sc24]) (by simpa [sc4] using (sp_up (by simp [DataW.trod, Tryz.underlying4] : DataW.trod enc Tryz.prog w base spare held 1 4 [.bool b1] = some (.lit (.bool b1), [])) (by decide))) (by simpa [sc22] using (sp_up (by simp [DataW.trod, Tryz.underlying22, wx2] : DataW.trod enc Tryz.prog w base spare held 1 22 [.int .u64 x2] = some (.lit (.int .u64 x2), [])) (by decide))) (by simpa [sc22] using (sp_up (by simp [DataW.trod, Tryz.underlying22, wx3] : DataW.trod enc Tryz.prog w base spare held 1 22 [.int .u64 x3] = some (.lit (.int .u64 x3), [])) (by decide)))
    simpa using this
  exact ⟨2, by simpa [Value.cells] using t0⟩
set_option maxRecDepth 100000 in
theorem open_a2i {r : Reach} {b0 : Nat} {v : Value} {d : DataW H} {p : List MemPlace} (hv : Value.okWide Tryz.prog w r b0 66 v) (h : DataW.Trod enc Tryz.prog w base spare held 66 v d p) :
    ∃ (x1 : Int) (x2 : Int), v = .agg #[.int .i64 x1, .int .i64 x2] ∧ d = .agg [.lit (.int .i64 x1), .lit (.int .i64 x2)] ∧ p = [] ∧ (Lit.int .i64 x1).wf = true ∧ (Lit.int .i64 x2).wf = true := by
  obtain ⟨cs, rfl, hsz⟩ := sp_okarr Tryz.underlying66 hv
  obtain ⟨c0, c1, rfl⟩ := sp_array2 (hsz.trans sc66)
  obtain ⟨fuel, hf⟩ := h
  simp only [Value.cells] at hf
  obtain ⟨y0_0, y0_1, n0, hx, h0_0, h0_1⟩ := sp_arr2_1 Tryz.underlying66 sc2 hf
  obtain ⟨x1, ex1, rfl, wx1⟩ := DataW.trod_int Tryz.underlying2 h0_0
  simp at ex1
  subst ex1
  obtain ⟨x2, ex2, rfl, wx2⟩ := DataW.trod_int Tryz.underlying2 h0_1
  simp at ex2
  subst ex2
  simp only [Prod.mk.injEq, List.append_nil] at hx
  exact ⟨x1, x2, rfl, hx.1, hx.2, wx1, wx2⟩
set_option maxRecDepth 100000 in
theorem shut_a2i  {x1 x2 : Int} (wx1 : (Lit.int .i64 x1).wf = true) (wx2 : (Lit.int .i64 x2).wf = true) :
    DataW.Trod enc Tryz.prog w base spare held 66 (.agg #[.int .i64 x1, .int .i64 x2]) (.agg [.lit (.int .i64 x1), .lit (.int .i64 x2)]) [] := by
  have t0 : DataW.trod enc Tryz.prog w base spare held 2 66 [.int .i64 x1, .int .i64 x2] = some (.agg [.lit (.int .i64 x1), .lit (.int .i64 x2)], []) := by
    have := sp_arr2_1_mk (enc := enc) (w := w) (base := base) (spare := spare) (held := held) (n := 1) (y0 := (.lit (.int .i64 x1), [])) (y1 := (.lit (.int .i64 x2), [])) Tryz.underlying66 sc2 sc66 (sp_up (by simp [DataW.trod, Tryz.underlying2, wx1] : DataW.trod enc Tryz.prog w base spare held 1 2 [.int .i64 x1] = some (.lit (.int .i64 x1), [])) (by decide)) (sp_up (by simp [DataW.trod, Tryz.underlying2, wx2] : DataW.trod enc Tryz.prog w base spare held 1 2 [.int .i64 x2] = some (.lit (.int .i64 x2), [])) (by decide))
    simpa using this
  exact ⟨2, by simpa [Value.cells] using t0⟩
set_option maxRecDepth 100000 in
theorem open_a2u {r : Reach} {b0 : Nat} {v : Value} {d : DataW H} {p : List MemPlace} (hv : Value.okWide Tryz.prog w r b0 143 v) (h : DataW.Trod enc Tryz.prog w base spare held 143 v d p) :
    ∃ (x1 : Int) (x2 : Int), v = .agg #[.int .u64 x1, .int .u64 x2] ∧ d = .agg [.lit (.int .u64 x1), .lit (.int .u64 x2)] ∧ p = [] ∧ (Lit.int .u64 x1).wf = true ∧ (Lit.int .u64 x2).wf = true := by
  obtain ⟨cs, rfl, hsz⟩ := sp_okarr Tryz.underlying143 hv
  obtain ⟨c0, c1, rfl⟩ := sp_array2 (hsz.trans sc143)
  obtain ⟨fuel, hf⟩ := h
  simp only [Value.cells] at hf
  obtain ⟨y0_0, y0_1, n0, hx, h0_0, h0_1⟩ := sp_arr2_1 Tryz.underlying143 sc22 hf
  obtain ⟨x1, ex1, rfl, wx1⟩ := DataW.trod_int Tryz.underlying22 h0_0
  simp at ex1
  subst ex1
  obtain ⟨x2, ex2, rfl, wx2⟩ := DataW.trod_int Tryz.underlying22 h0_1
  simp at ex2
  subst ex2
  simp only [Prod.mk.injEq, List.append_nil] at hx
  exact ⟨x1, x2, rfl, hx.1, hx.2, wx1, wx2⟩
set_option maxRecDepth 100000 in
theorem shut_a2u  {x1 x2 : Int} (wx1 : (Lit.int .u64 x1).wf = true) (wx2 : (Lit.int .u64 x2).wf = true) :
    DataW.Trod enc Tryz.prog w base spare held 143 (.agg #[.int .u64 x1, .int .u64 x2]) (.agg [.lit (.int .u64 x1), .lit (.int .u64 x2)]) [] := by
  have t0 : DataW.trod enc Tryz.prog w base spare held 2 143 [.int .u64 x1, .int .u64 x2] = some (.agg [.lit (.int .u64 x1), .lit (.int .u64 x2)], []) := by
    have := sp_arr2_1_mk (enc := enc) (w := w) (base := base) (spare := spare) (held := held) (n := 1) (y0 := (.lit (.int .u64 x1), [])) (y1 := (.lit (.int .u64 x2), [])) Tryz.underlying143 sc22 sc143 (sp_up (by simp [DataW.trod, Tryz.underlying22, wx1] : DataW.trod enc Tryz.prog w base spare held 1 22 [.int .u64 x1] = some (.lit (.int .u64 x1), [])) (by decide)) (sp_up (by simp [DataW.trod, Tryz.underlying22, wx2] : DataW.trod enc Tryz.prog w base spare held 1 22 [.int .u64 x2] = some (.lit (.int .u64 x2), [])) (by decide))
    simpa using this
  exact ⟨2, by simpa [Value.cells] using t0⟩
end
end Go.Proofs.YteafnkimcidkhaaGreat

