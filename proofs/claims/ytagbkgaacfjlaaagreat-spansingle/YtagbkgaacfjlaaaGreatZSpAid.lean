/- Flat values (ranges, arrays of two, pairs of ranges), opened and shut. -/
import Derived.Test.YtagbkgaacfjlaaaGreatRows
import Derived.ProofKit
import Derived.OpenShut
import Derived.ChangeOld
import Derived.Lib.SmallJoins
import Derived.Deep.Strs
namespace Go.Proofs.YtagbkgaacfjlaaaGreat
open Go.ChangeShapes Go.WideShapes Go.ChangeAt Go.RowKit Go.Joins Go.Deep
set_option linter.unusedVariables false
set_option linter.unusedSimpArgs false
set_option maxRecDepth 100000 in
theorem sc23 : Tryz.prog.cellsOf 23 = 1 := by kernel_rfl
set_option maxRecDepth 100000 in
theorem sc67 : Tryz.prog.cellsOf 67 = 2 := by kernel_rfl
theorem sp_array2 {α : Type} {cs : Array α} (h : cs.size = 2) : ∃ c0 c1, cs = #[c0, c1] := by
  obtain ⟨l⟩ := cs
  match l, h with
  | [c0, c1], _ => exact ⟨c0, c1, rfl⟩
section
variable {H : Type} {enc : TypeId × Value → H} {w : World} {base : Nat} {spare : Nat → Bool} {held : Bool}
theorem sp_okarr {P : Program} {t e : TypeId} {k : Nat} {r : Reach} {b0 : Nat} {v : Value} (ht : P.underlying t = some (.array k e)) (h : Value.okWide P w r b0 t v) : ∃ cs, v = .agg cs ∧ cs.size = P.cellsOf t := by
  simp only [Value.okWide, ht] at h
  obtain ⟨cs, h1, h2, _⟩ := h
  exact ⟨cs, h1, h2⟩
theorem sp_arr2_1 {P : Program} {t e : TypeId} {fuel : Nat} {c0 d0 : Value} {x : DataW H × List MemPlace} (ht : P.underlying t = some (.array 2 e)) (hce : P.cellsOf e = 1)
    (h : DataW.trod enc P w base spare held fuel t [c0, d0] = some x) :
    ∃ y0 y1 n, x = (.agg [y0.1, y1.1], y0.2 ++ y1.2) ∧ DataW.trod enc P w base spare held n e [c0] = some y0 ∧ DataW.trod enc P w base spare held n e [d0] = some y1 := by
  cases fuel with
  | zero => simp [DataW.trod] at h
  | succ n =>
    unfold DataW.trod at h
    rw [ht] at h
    have r2 : List.range 2 = [0, 1] := rfl
    simp [r2, hce] at h
    obtain ⟨_, h⟩ := h
    cases h0 : DataW.trod enc P w base spare held n e [c0] with
    | none => simp [h0] at h
    | some y0 =>
      cases h1 : DataW.trod enc P w base spare held n e [d0] with
      | none => simp [h0, h1] at h
      | some y1 =>
        simp [h0, h1] at h
        exact ⟨y0, y1, n, h.symm, h0, h1⟩
theorem sp_arr2_1_mk {P : Program} {t e : TypeId} {n : Nat} {c0 d0 : Value} {y0 y1 : DataW H × List MemPlace} (ht : P.underlying t = some (.array 2 e)) (hce : P.cellsOf e = 1) (hC : P.cellsOf t = 2)
    (h0 : DataW.trod enc P w base spare held n e [c0] = some y0) (h1 : DataW.trod enc P w base spare held n e [d0] = some y1) :
    DataW.trod enc P w base spare held (n + 1) t [c0, d0] = some (.agg [y0.1, y1.1], y0.2 ++ y1.2) := by
  unfold DataW.trod
  rw [ht]
  have r2 : List.range 2 = [0, 1] := rfl
  simp [r2, hce, hC, h0, h1]
theorem sp_up {t : TypeId} {n m : Nat} {cs : List Value} {x : DataW H × List MemPlace} (h : DataW.trod enc Tryz.prog w base spare held n t cs = some x) (le : n ≤ m) : DataW.trod enc Tryz.prog w base spare held m t cs = some x := DataW.trod_le le h
set_option maxRecDepth 100000 in
theorem open_a2u {r : Reach} {b0 : Nat} {v : Value} {d : DataW H} {p : List MemPlace} (hv : Value.okWide Tryz.prog w r b0 67 v) (h : DataW.Trod enc Tryz.prog w base spare held 67 v d p) :
    ∃ (x1 : Int) (x2 : Int), v = .agg #[.int .u64 x1, .int .u64 x2] ∧ d = .agg [.lit (.int .u64 x1), .lit (.int .u64 x2)] ∧ p = [] ∧ (Lit.int .u64 x1).wf = true ∧ (Lit.int .u64 x2).wf = true := by
  obtain ⟨cs, rfl, hsz⟩ := sp_okarr Tryz.underlying67 hv
  obtain ⟨c0, c1, rfl⟩ := sp_array2 (hsz.trans sc67)
  obtain ⟨fuel, hf⟩ := h
  simp only [Value.cells] at hf
  obtain ⟨y0_0, y0_1, n0, hx, h0_0, h0_1⟩ := sp_arr2_1 Tryz.underlying67 sc23 hf
  obtain ⟨x1, ex1, rfl, wx1⟩ := DataW.trod_int Tryz.underlying23 h0_0
  simp at ex1
  subst ex1
  obtain ⟨x2, ex2, rfl, wx2⟩ := DataW.trod_int Tryz.underlying23 h0_1
  simp at ex2
  subst ex2
  simp only [Prod.mk.injEq, List.append_nil] at hx
  exact ⟨x1, x2, rfl, hx.1, hx.2, wx1, wx2⟩
set_option maxRecDepth 100000 in
theorem shut_a2u  {x1 x2 : Int} (wx1 : (Lit.int .u64 x1).wf = true) (wx2 : (Lit.int .u64 x2).wf = true) :
    DataW.Trod enc Tryz.prog w base spare held 67 (.agg #[.int .u64 x1, .int .u64 x2]) (.agg [.lit (.int .u64 x1), .lit (.int .u64 x2)]) [] := by
  have t0 : DataW.trod enc Tryz.prog w base spare held 2 67 [.int .u64 x1, .int .u64 x2] = some (.agg [.lit (.int .u64 x1), .lit (.int .u64 x2)], []) := by
    have := sp_arr2_1_mk (enc := enc) (w := w) (base := base) (spare := spare) (held := held) (n := 1) (y0 := (.lit (.int .u64 x1), [])) (y1 := (.lit (.int .u64 x2), [])) Tryz.underlying67 sc23 sc67 (sp_up (by simp [DataW.trod, Tryz.underlying23, wx1] : DataW.trod enc Tryz.prog w base spare held 1 23 [.int .u64 x1] = some (.lit (.int .u64 x1), [])) (by decide)) (sp_up (by simp [DataW.trod, Tryz.underlying23, wx2] : DataW.trod enc Tryz.prog w base spare held 1 23 [.int .u64 x2] = some (.lit (.int .u64 x2), [])) (by decide))
    simpa using this
  exact ⟨2, by simpa [Value.cells] using t0⟩
end
end Go.Proofs.YtagbkgaacfjlaaaGreat

