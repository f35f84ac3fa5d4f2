/- Flat values (ranges, arrays of two, pairs of ranges), opened and shut. -/
import Derived.Test.YtgdknlnpfnifiaaGreatRows
import Derived.ProofKit
import Derived.OpenShut
import Derived.ChangeOld
import Derived.Lib.SmallJoins
import Derived.Deep.Strs
namespace Go.Proofs.YtgdknlnpfnifiaaGreat
open Go.ChangeShapes Go.WideShapes Go.ChangeAt Go.RowKit Go.Joins Go.Deep
set_option linter.unusedVariables false
set_option linter.unusedSimpArgs false
set_option maxRecDepth 100000 in
theorem sc4 : Tryz.prog.cellsOf 4 = 1 := by kernel_rfl
set_option maxRecDepth 100000 in
theorem sc26 : Tryz.prog.cellsOf 26 = 3 := by kernel_rfl
set_option maxRecDepth 100000 in
theorem sc24 : Tryz.prog.cellsOf 24 = 1 := by kernel_rfl
theorem sp_array3 {α : Type} {cs : Array α} (h : cs.size = 3) : ∃ c0 c1 c2, cs = #[c0, c1, c2] := by
  obtain ⟨l⟩ := cs
  match l, h with
  | [c0, c1, c2], _ => exact ⟨c0, c1, c2, rfl⟩
section
variable {H : Type} {enc : TypeId × Value → H} {w : World} {base : Nat} {spare : Nat → Bool} {held : Bool}
set_option maxRecDepth 100000 in
theorem sp_bool {n : Nat} {c : Value} {y : DataW H × List MemPlace} (h : DataW.trod enc Tryz.prog w base spare held n 4 [c] = some y) : ∃ b : Bool, c = .bool b ∧ y = (.lit (.bool b), []) := by
  cases n with
  | zero => simp [DataW.trod] at h
  | succ n =>
    unfold DataW.trod at h
    rw [Tryz.underlying4] at h
    cases c <;> simp at h
    exact ⟨_, rfl, h.symm⟩
theorem sp_up {t : TypeId} {n m : Nat} {cs : List Value} {x : DataW H × List MemPlace} (h : DataW.trod enc Tryz.prog w base spare held n t cs = some x) (le : n ≤ m) : DataW.trod enc Tryz.prog w base spare held m t cs = some x := DataW.trod_le le h
set_option maxRecDepth 100000 in
theorem open_fr {r : Reach} {b0 : Nat} {v : Value} {d : DataW H} {p : List MemPlace} (hv : Value.okWide Tryz.prog w r b0 26 v) (h : DataW.Trod enc Tryz.prog w base spare held 26 v d p) :
    ∃ (b1 : Bool) (x2 : Int) (x3 : Int), v = .agg #[.bool b1, .int .u64 x2, .int .u64 x3] ∧ d = .agg [.lit (.bool b1), .lit (.int .u64 x2), .lit (.int .u64 x3)] ∧ p = [] ∧ (Lit.int .u64 x2).wf = true ∧ (Lit.int .u64 x3).wf = true := by
  obtain ⟨cs, rfl, hsz⟩ := okWide_struct Tryz.underlying26 hv
  obtain ⟨c0, c1, c2, rfl⟩ := sp_array3 (hsz.trans sc26)
  obtain ⟨fuel, hf⟩ := h
  obtain ⟨y0_0, y0_1, y0_2, n0, hx, _, h0_0, h0_1, h0_2⟩ := trod_struct3 Tryz.underlying26 hf
  simp only [Value.cells, sc4, sc24] at h0_0 h0_1 h0_2
  obtain ⟨b1, rfl, rfl⟩ := sp_bool h0_0
  obtain ⟨x2, ex2, rfl, wx2⟩ := DataW.trod_int Tryz.underlying24 h0_1
  simp at ex2
  subst ex2
  obtain ⟨x3, ex3, rfl, wx3⟩ := DataW.trod_int Tryz.underlying24 h0_2
  simp at ex3
  subst ex3
  simp only [Prod.mk.injEq, List.append_nil] at hx
  exact ⟨b1, x2, x3, rfl, hx.1, hx.2, wx2, wx3⟩
set_option maxRecDepth 100000 in
theorem shut_fr (b1 : Bool) {x2 x3 : Int} (wx2 : (Lit.int .u64 x2).wf = true) (wx3 : (Lit.int .u64 x3).wf = true) :
    DataW.Trod enc Tryz.prog w base spare held 26 (.agg #[.bool b1, .int .u64 x2, .int .u64 x3]) (.agg [.lit (.bool b1), .lit (.int .u64 x2), .lit (.int .u64 x3)]) [] := by
  have t0 : DataW.trod enc Tryz.prog w base spare held 2 26 [.bool b1, .int .u64 x2, .int .u64 x3] = some (.agg [.lit (.bool b1), .lit (.int .u64 x2), .lit (.int .u64 x3)], []) := by
    have := trod_struct3_mk (enc := enc) (w := w) (base := base) (spare := spare) (held := held) (n := 1) (cs := [.bool b1, .int .u64 x2, .int .u64 x3]) (y0 := (.lit (.bool b1), [])) (y1 := (.lit (.int .u64 x2), [])) (y2 := (.lit (.int .u64 x3), [])) Tryz.underlying26 (by simp [sc26]) (by simpa [sc4] using (sp_up (by simp [DataW.trod, Tryz.underlying4] : DataW.trod enc Tryz.prog w base spare held 1 4 [.bool b1] = some (.lit (.bool b1), [])) (by decide))) (by simpa [sc24] using (sp_up (by simp [DataW.trod, Tryz.underlying24, wx2] : DataW.trod enc Tryz.prog w base spare held 1 24 [.int .u64 x2] = some (.lit (.int .u64 x2), [])) (by decide))) (by simpa [sc24] using (sp_up (by simp [DataW.trod, Tryz.underlying24, wx3] : DataW.trod enc Tryz.prog w base spare held 1 24 [.int .u64 x3] = some (.lit (.int .u64 x3), [])) (by decide)))
    simpa using this
  exact ⟨2, by simpa [Value.cells] using t0⟩
end
end Go.Proofs.YtgdknlnpfnifiaaGreat


