/- Flat values (ranges, arrays of two, pairs of ranges), opened and shut. -/
import Derived.Test.YthjoigkckgdcaaaGreatRows
import Derived.ProofKit
import Derived.OpenShut
import Derived.ChangeOld
import Derived.Lib.SmallJoins
import Derived.Deep.Strs
namespace Go.Proofs.YthjoigkckgdcaaaGreat
open Go.ChangeShapes Go.WideShapes Go.ChangeAt Go.RowKit Go.Joins Go.Deep
set_option linter.unusedVariables false
set_option linter.unusedSimpArgs false
set_option maxRecDepth 100000 in
theorem sc4 : Tryz.prog.cellsOf 4 = 1 := by kernel_rfl
set_option maxRecDepth 100000 in
theorem sc25 : Tryz.prog.cellsOf 25 = 3 := by kernel_rfl
set_option maxRecDepth 100000 in
theorem sc23 : Tryz.prog.cellsOf 23 = 1 := by kernel_rfl
set_option maxRecDepth 100000 in
theorem sc27 : Tryz.prog.cellsOf 27 = 7 := by kernel_rfl
set_option maxRecDepth 100000 in
theorem sc22 : Tryz.prog.cellsOf 22 = 1 := by kernel_rfl
theorem sp_array7 {α : Type} {cs : Array α} (h : cs.size = 7) : ∃ c0 c1 c2 c3 c4 c5 c6, cs = #[c0, c1, c2, c3, c4, c5, c6] := by
  obtain ⟨l⟩ := cs
  match l, h with
  | [c0, c1, c2, c3, c4, c5, c6], _ => exact ⟨c0, c1, c2, c3, c4, c5, c6, rfl⟩
section
variable {H : Type} {enc : TypeId × Value → H} {w : World} {base : Nat} {spare : Nat → Bool} {held : Bool}
set_option maxRecDepth 100000 in
theorem sp_bool {n : Nat} {c : Value} {y : DataW H × List MemPlace} (h : DataW.trod enc Tryz.prog w base spare held n 4 [c] = some y) : ∃ b : Bool, c = .bool b ∧ y = (.lit (.bool b), []) := by
  cases n with
  | zero => simp [DataW.trod] at h
  | succ n =>
    unfold DataW.trod at h
    rw [Tryz.underlying4] at h
    cases c <;> simp at h
    exact ⟨_, rfl, h.symm⟩
theorem sp_up {t : TypeId} {n m : Nat} {cs : List Value} {x : DataW H × List MemPlace} (h : DataW.trod enc Tryz.prog w base spare held n t cs = some x) (le : n ≤ m) : DataW.trod enc Tryz.prog w base spare held m t cs = some x := DataW.trod_le le h
set_option maxRecDepth 100000 in
theorem open_two {r : Reach} {b0 : Nat} {v : Value} {d : DataW H} {p : List MemPlace} (hv : Value.okWide Tryz.prog w r b0 27 v) (h : DataW.Trod enc Tryz.prog w base spare held 27 v d p) :
    ∃ (x1 : Int) (b3 : Bool) (x4 : Int) (x5 : Int) (b7 : Bool) (x8 : Int) (x9 : Int), v = .agg #[.int .i64 x1, .bool b3, .int .u64 x4, .int .u64 x5, .bool b7, .int .u64 x8, .int .u64 x9] ∧ d = .agg [.lit (.int .i64 x1), .agg [.lit (.bool b3), .lit (.int .u64 x4), .lit (.int .u64 x5)], .agg [.lit (.bool b7), .lit (.int .u64 x8), .lit (.int .u64 x9)]] ∧ p = [] ∧ (Lit.int .i64 x1).wf = true ∧ (Lit.int .u64 x4).wf = true ∧ (Lit.int .u64 x5).wf = true ∧ (Lit.int .u64 x8).wf = true ∧ (Lit.int .u64 x9).wf = true := by
  obtain ⟨cs, rfl, hsz⟩ := okWide_struct Tryz.underlying27 hv
  obtain ⟨c0, c1, c2, c3, c4, c5, c6, rfl⟩ := sp_array7 (hsz.trans sc27)
  obtain ⟨fuel, hf⟩ := h
  obtain ⟨y0_0, y0_1, y0_2, n0, hx, _, h0_0, h0_1, h0_2⟩ := trod_struct3 Tryz.underlying27 hf
  simp only [Value.cells, sc22, sc25] at h0_0 h0_1 h0_2
  obtain ⟨x1, ex1, rfl, wx1⟩ := DataW.trod_int Tryz.underlying22 h0_0
  simp at ex1
  subst ex1
  obtain ⟨y2_0, y2_1, y2_2, n2, rfl, _, h2_0, h2_1, h2_2⟩ := trod_struct3 Tryz.underlying25 h0_1
  simp only [Value.cells, sc4, sc23] at h2_0 h2_1 h2_2
  obtain ⟨b3, rfl, rfl⟩ := sp_bool h2_0
  obtain ⟨x4, ex4, rfl, wx4⟩ := DataW.trod_int Tryz.underlying23 h2_1
  simp at ex4
  subst ex4
  obtain ⟨x5, ex5, rfl, wx5⟩ := DataW.trod_int Tryz.underlying23 h2_2
  simp at ex5
  subst ex5
  obtain ⟨y6_0, y6_1, y6_2, n6, rfl, _, h6_0, h6_1, h6_2⟩ := trod_struct3 Tryz.underlying25 h0_2
  simp only [Value.cells, sc4, sc23] at h6_0 h6_1 h6_2
  obtain ⟨b7, rfl, rfl⟩ := sp_bool h6_0
  obtain ⟨x8, ex8, rfl, wx8⟩ := DataW.trod_int Tryz.underlying23 h6_1
  simp at ex8
  subst ex8
  obtain ⟨x9, ex9, rfl, wx9⟩ := DataW.trod_int Tryz.underlying23 h6_2
  simp at ex9
  subst ex9
  simp only [Prod.mk.injEq, List.append_nil] at hx
  exact ⟨x1, b3, x4, x5, b7, x8, x9, rfl, hx.1, hx.2, wx1, wx4, wx5, wx8, wx9⟩
set_option maxRecDepth 100000 in
theorem shut_two (b3 : Bool) (b7 : Bool) {x1 x4 x5 x8 x9 : Int} (wx1 : (Lit.int .i64 x1).wf = true) (wx4 : (Lit.int .u64 x4).wf = true) (wx5 : (Lit.int .u64 x5).wf = true) (wx8 : (Lit.int .u64 x8).wf = true) (wx9 : (Lit.int .u64 x9).wf = true) :
    DataW.Trod enc Tryz.prog w base spare held 27 (.agg #[.int .i64 x1, .bool b3, .int .u64 x4, .int .u64 x5, .bool b7, .int .u64 x8, .int .u64 x9]) (.agg [.lit (.int .i64 x1), .agg [.lit (.bool b3), .lit (.int .u64 x4), .lit (.int .u64 x5)], .agg [.lit (.bool b7), .lit (.int .u64 x8), .lit (.int .u64 x9)]]) [] := by
  have t0 : DataW.trod enc Tryz.prog w base spare held 2 25 [.bool b3, .int .u64 x4, .int .u64 x5] = some (.agg [.lit (.bool b3), .lit (.int .u64 x4), .lit (.int .u64 x5)], []) := by
    have := trod_struct3_mk (enc := enc) (w := w) (base := base) (spare := spare) (held := held) (n := 1) (cs := [.bool b3, .int .u64 x4, .int .u64 x5]) (y0 := (.lit (.bool b3), [])) (y1 := (.lit (.int .u64 x4), [])) (y2 := (.lit (.int .u64 x5), [])) Tryz.underlying25 (by simp [sc25]) (by simpa [sc4] using (sp_up (by simp [DataW.trod, Tryz.underlying4] : DataW.trod enc Tryz.prog w base spare held 1 4 [.bool b3] = some (.lit (.bool b3), [])) (by decide))) (by simpa [sc23] using (sp_up (by simp [DataW.trod, Tryz.underlying23, wx4] : DataW.trod enc Tryz.prog w base spare held 1 23 [.int .u64 x4] = some (.lit (.int .u64 x4), [])) (by decide))) (by simpa [sc23] using (sp_up (by simp [DataW.trod, Tryz.underlying23, wx5] : DataW.trod enc Tryz.prog w base spare held 1 23 [.int .u64 x5] = some (.lit (.int .u64 x5), [])) (by decide)))
    simpa using this
  have t1 : DataW.trod enc Tryz.prog w base spare held 2 25 [.bool b7, .int .u64 x8, .int .u64 x9] = some (.agg [.lit (.bool b7), .lit (.int .u64 x8), .lit (.int .u64 x9)], []) := by
    have := trod_struct3_mk (enc := enc) (w := w) (base := base) (spare := spare) (held := held) (n := 1) (cs := [.bool b7, .int .u64 x8, .int .u64 x9]) (y0 := (.lit (.bool b7), [])) (y1 := (.lit (.int .u64 x8), [])) (y2 := (.lit (.int .u64 x9), [])) Tryz.underlying25 (by simp [sc25]) (by simpa [sc4] using (sp_up (by simp [DataW.trod, Tryz.underlying4] : DataW.trod enc Tryz.prog w base spare held 1 4 [.bool b7] = some (.lit (.bool b7), [])) (by decide))) (by simpa [sc23] using (sp_up (by simp [DataW.trod, Tryz.underlying23, wx8] : DataW.trod enc Tryz.prog w base spare held 1 23 [.int .u64 x8] = some (.lit (.int .u64 x8), [])) (by decide))) (by simpa [sc23] using (sp_up (by simp [DataW.trod, Tryz.underlying23, wx9] : DataW.trod enc Tryz.prog w base spare held 1 23 [.int .u64 x9] = some (.lit (.int .u64 x9), [])) (by decide)))
    simpa using this
  have t2 : DataW.trod enc Tryz.prog w base spare held 3 27 [.int .i64 x1, .bool b3, .int .u64 x4, .int .u64 x5, .bool b7, .int .u64 x8, .int .u64 x9] = some (.agg [.lit (.int .i64 x1), .agg [.lit (.bool b3), .lit (.int .u64 x4), .lit (.int .u64 x5)], .agg [.lit (.bool b7), .lit (.int .u64 x8), .lit (.int .u64 x9)]], []) := by
    have := trod_struct3_mk (enc := enc) (w := w) (base := base) (spare := spare) (held := held) (n := 2) (cs := [.int .i64 x1, .bool b3, .int .u64 x4, .int .u64 x5, .bool b7, .int .u64 x8, .int .u64 x9]) (y0 := (.lit (.int .i64 x1), [])) (y1 := (.agg [.lit (.bool b3), .lit (.int .u64 x4), .lit (.int .u64 x5)], [])) (y2 := (.agg [.lit (.bool b7), .lit (.int .u64 x8), .lit (.int .u64 x9)], [])) Tryz.underlying27 (by simp [sc27]) (by simpa [sc22] using (sp_up (by simp [DataW.trod, Tryz.underlying22, wx1] : DataW.trod enc Tryz.prog w base spare held 1 22 [.int .i64 x1] = some (.lit (.int .i64 x1), [])) (by decide))) (by simpa [sc25] using (sp_up t0 (by decide))) (by simpa [sc25] using (sp_up t1 (by decide)))
    simpa using this
  exact ⟨3, by simpa [Value.cells] using t2⟩
end
end Go.Proofs.YthjoigkckgdcaaaGreat

