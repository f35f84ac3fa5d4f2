/- A Number of the statement SoftRounds, by value, opened and shut. -/
import Derived.Test.YtmfmjinplieehaaRows
import Derived.ProofKit
import Derived.OpenShut
import Derived.ChangeOld
import Derived.Lib.SmallJoins
namespace Go.Proofs.Ytmfmjinplieehaa
open Go.ChangeShapes Go.WideShapes Go.ChangeAt Go.RowKit Go.Joins
set_option linter.unusedVariables false
section
variable {H : Type} {enc : TypeId × Value → H} {w : World} {base : Nat} {spare : Nat → Bool} {held : Bool}
set_option maxRecDepth 100000 in
theorem numCells : Try.prog.cellsOf 30 = 5 := by kernel_rfl
set_option maxRecDepth 100000 in
theorem numC1 : Try.prog.cellsOf 4 = 1 := by kernel_rfl
set_option maxRecDepth 100000 in
theorem numC2 : Try.prog.cellsOf 28 = 2 := by kernel_rfl
set_option maxRecDepth 100000 in
theorem numC3 : Try.prog.cellsOf 3 = 1 := by kernel_rfl
set_option maxRecDepth 100000 in
theorem numC4 : Try.prog.cellsOf 26 = 1 := by kernel_rfl
theorem array5 {α : Type} {cs : Array α} (h : cs.size = 5) : ∃ c0 c1 c2 c3 c4, cs = #[c0, c1, c2, c3, c4] := by
  obtain ⟨l⟩ := cs
  match l, h with
  | [c0, c1, c2, c3, c4], _ => exact ⟨c0, c1, c2, c3, c4, rfl⟩
set_option maxRecDepth 100000 in
theorem trod_bool' {n : Nat} {c : Value} {y : DataW H × List MemPlace} (h : DataW.trod enc Try.prog w base spare held n 4 [c] = some y) : ∃ b : Bool, c = .bool b ∧ y = (.lit (.bool b), []) := by
  cases n with
  | zero => simp [DataW.trod] at h
  | succ n =>
    unfold DataW.trod at h
    rw [Try.underlying4] at h
    cases c <;> simp at h
    exact ⟨_, rfl, h.symm⟩
set_option maxRecDepth 100000 in
theorem open_number {r : Reach} {b0 : Nat} {v : Value} {d : DataW H} {p : List MemPlace}
    (hv : Value.okWide Try.prog w r b0 30 v) (h : DataW.Trod enc Try.prog w base spare held 30 v d p) :
    ∃ (b1 b2 : Bool) (x l e : Int), v = .agg #[.bool b1, .bool b2, .int .u64 x, .int .u64 l, .int .i64 e] ∧ d = .agg [.lit (.bool b1), .lit (.bool b2), .agg [.lit (.int .u64 x), .lit (.int .u64 l)], .lit (.int .i64 e)] ∧ p = [] ∧
      (Lit.int .u64 x).wf = true ∧ (Lit.int .u64 l).wf = true ∧ (Lit.int .i64 e).wf = true := by
  obtain ⟨cs, rfl, hsz⟩ := okWide_struct Try.underlying30 hv
  obtain ⟨c0, c1, c2, c3, c4, rfl⟩ := array5 (hsz.trans numCells)
  obtain ⟨fuel, hf⟩ := h
  obtain ⟨y0, y1, y2, y3, n, hx, _, h0, h1, h2, h3⟩ := trod_struct4 Try.underlying30 hf
  simp only [Value.cells, numC1, numC2, numC3] at h0 h1 h2 h3
  obtain ⟨b1, rfl, rfl⟩ := trod_bool' h0
  obtain ⟨b2, rfl, rfl⟩ := trod_bool' h1
  obtain ⟨z0, z1, n2, hz, _, g0, g1⟩ := trod_struct2 Try.underlying28 h2
  simp only [numC4] at g0 g1
  obtain ⟨x, ex, rfl, wx⟩ := DataW.trod_int Try.underlying26 g0
  obtain ⟨l, el, rfl, wl⟩ := DataW.trod_int Try.underlying26 g1
  obtain ⟨e, ee, rfl, we⟩ := DataW.trod_int Try.underlying3 h3
  simp at ex el ee
  subst ex el ee
  subst hz
  simp only [Prod.mk.injEq] at hx
  exact ⟨b1, b2, x, l, e, rfl, hx.1, hx.2, wx, wl, we⟩
set_option maxRecDepth 100000 in
theorem shut_number (b1 b2 : Bool) {x l e : Int} (wx : (Lit.int .u64 x).wf = true) (wl : (Lit.int .u64 l).wf = true) (we : (Lit.int .i64 e).wf = true) :
    DataW.Trod enc Try.prog w base spare held 30 (.agg #[.bool b1, .bool b2, .int .u64 x, .int .u64 l, .int .i64 e]) (.agg [.lit (.bool b1), .lit (.bool b2), .agg [.lit (.int .u64 x), .lit (.int .u64 l)], .lit (.int .i64 e)]) [] := by
  have t2 : DataW.trod enc Try.prog w base spare held 2 28 [.int .u64 x, .int .u64 l] = some (.agg [.lit (.int .u64 x), .lit (.int .u64 l)], []) := by
    have := trod_struct2_mk (enc := enc) (w := w) (base := base) (spare := spare) (held := held) (n := 1) (cs := [.int .u64 x, .int .u64 l]) (y0 := (.lit (.int .u64 x), [])) (y1 := (.lit (.int .u64 l), [])) Try.underlying28 (by simp [numC2])
      (by simp [numC4, DataW.trod, Try.underlying26, wx]) (by simp [numC4, DataW.trod, Try.underlying26, wl])
    simpa using this
  have := trod_struct4_mk (enc := enc) (w := w) (base := base) (spare := spare) (held := held) (n := 2) (cs := [.bool b1, .bool b2, .int .u64 x, .int .u64 l, .int .i64 e]) (y0 := (.lit (.bool b1), [])) (y1 := (.lit (.bool b2), [])) (y2 := (.agg [.lit (.int .u64 x), .lit (.int .u64 l)], [])) (y3 := (.lit (.int .i64 e), [])) Try.underlying30 (by simp [numCells])
    (by simp [numC1, DataW.trod, Try.underlying4]) (by simp [numC1, DataW.trod, Try.underlying4]) (by simpa [numC2] using t2) (by simp [numC3, DataW.trod, Try.underlying3, we])
  exact ⟨3, by simpa [Value.cells] using this⟩
end
end Go.Proofs.Ytmfmjinplieehaa
