/- Flat values (ranges, arrays of two, pairs of ranges), opened and shut. -/
import Derived.Test.YthjoigkckgdcaaaGreatRows
import Derived.ProofKit
import Derived.OpenShut
import Derived.ChangeOld
import Derived.Lib.SmallJoins
import Derived.Deep.Strs
namespace Go.Proofs.YthjoigkckgdcaaaGreat
open Go.ChangeShapes Go.WideShapes Go.ChangeAt Go.RowKit Go.Joins Go.Deep
set_option linter.unusedVariables false
set_option linter.unusedSimpArgs false
set_option maxRecDepth 100000 in
theorem sc47 : Tryz.prog.cellsOf 47 = 3 := by kernel_rfl
set_option maxRecDepth 100000 in
theorem sc4 : Tryz.prog.cellsOf 4 = 1 := by kernel_rfl
set_option maxRecDepth 100000 in
theorem sc2 : Tryz.prog.cellsOf 2 = 1 := by kernel_rfl
set_option maxRecDepth 100000 in
theorem sc25 : Tryz.prog.cellsOf 25 = 3 := by kernel_rfl
set_option maxRecDepth 100000 in
theorem sc23 : Tryz.prog.cellsOf 23 = 1 := by kernel_rfl
set_option maxRecDepth 100000 in
theorem sc81 : Tryz.prog.cellsOf 81 = 6 := by kernel_rfl
set_option maxRecDepth 100000 in
theorem sc82 : Tryz.prog.cellsOf 82 = 2 := by kernel_rfl
set_option maxRecDepth 100000 in
theorem sc67 : Tryz.prog.cellsOf 67 = 2 := by kernel_rfl
set_option maxRecDepth 100000 in
theorem sc27 : Tryz.prog.cellsOf 27 = 7 := by kernel_rfl
set_option maxRecDepth 100000 in
theorem sc22 : Tryz.prog.cellsOf 22 = 1 := by kernel_rfl
theorem sp_array2 {α : Type} {cs : Array α} (h : cs.size = 2) : ∃ c0 c1, cs = #[c0, c1] := by
  obtain ⟨l⟩ := cs
  match l, h with
  | [c0, c1], _ => exact ⟨c0, c1, rfl⟩
theorem sp_array3 {α : Type} {cs : Array α} (h : cs.size = 3) : ∃ c0 c1 c2, cs = #[c0, c1, c2] := by
  obtain ⟨l⟩ := cs
  match l, h with
  | [c0, c1, c2], _ => exact ⟨c0, c1, c2, rfl⟩
theorem sp_array6 {α : Type} {cs : Array α} (h : cs.size = 6) : ∃ c0 c1 c2 c3 c4 c5, cs = #[c0, c1, c2, c3, c4, c5] := by
  obtain ⟨l⟩ := cs
  match l, h with
  | [c0, c1, c2, c3, c4, c5], _ => exact ⟨c0, c1, c2, c3, c4, c5, rfl⟩
theorem sp_array7 {α : Type} {cs : Array α} (h : cs.size = 7) : ∃ c0 c1 c2 c3 c4 c5 c6, cs = #[c0, c1, c2, c3, c4, c5, c6] := by
  obtain ⟨l⟩ := cs
  match l, h with
  | [c0, c1, c2, c3, c4, c5, c6], _ => exact ⟨c0, c1, c2, c3, c4, c5, c6, rfl⟩
section
variable {H : Type} {enc : TypeId × Value → H} {w : World} {base : Nat} {spare : Nat → Bool} {held : Bool}
set_option maxRecDepth 100000 in
theorem sp_bool {n : Nat} {c : Value} {y : DataW H × List MemPlace} (h : DataW.trod enc Tryz.prog w base spare held n 4 [c] = some y) : ∃ b : Bool, c = .bool b ∧ y = (.lit (.bool b), []) := by
  cases n with
  | zero => simp [DataW.trod] at h
  | succ n =>
    unfold DataW.trod at h
    rw [Tryz.underlying4] at h
    cases c <;> simp at h
    exact ⟨_, rfl, h.symm⟩
theorem sp_okarr {P : Program} {t e : TypeId} {k : Nat} {r : Reach} {b0 : Nat} {v : Value} (ht : P.underlying t = some (.array k e)) (h : Value.okWide P w r b0 t v) : ∃ cs, v = .agg cs ∧ cs.size = P.cellsOf t := by
  simp only [Value.okWide, ht] at h
  obtain ⟨cs, h1, h2, _⟩ := h
  exact ⟨cs, h1, h2⟩
theorem sp_arr2_1 {P : Program} {t e : TypeId} {fuel : Nat} {c0 d0 : Value} {x : DataW H × List MemPlace} (ht : P.underlying t = some (.array 2 e)) (hce : P.cellsOf e = 1)
    (h : DataW.trod enc P w base spare held fuel t [c0, d0] = some x) :
    ∃ y0 y1 n, x = (.agg [y0.1, y1.1], y0.2 ++ y1.2) ∧ DataW.trod enc P w base spare held n e [c0] = some y0 ∧ DataW.trod enc P w base spare held n e [d0] = some y1 := by
  cases fuel with
  | zero => simp [DataW.trod] at h
  | succ n =>
    unfold DataW.trod at h
    rw [ht] at h
    have r2 : List.range 2 = [0, 1] := rfl
    simp [r2, hce] at h
    obtain ⟨_, h⟩ := h
    cases h0 : DataW.trod enc P w base spare held n e [c0] with
    | none => simp [h0] at h
    | some y0 =>
      cases h1 : DataW.trod enc P w base spare held n e [d0] with
      | none => simp [h0, h1] at h
      | some y1 =>
        simp [h0, h1] at h
        exact ⟨y0, y1, n, h.symm, h0, h1⟩
theorem sp_arr2_1_mk {P : Program} {t e : TypeId} {n : Nat} {c0 d0 : Value} {y0 y1 : DataW H × List MemPlace} (ht : P.underlying t = some (.array 2 e)) (hce : P.cellsOf e = 1) (hC : P.cellsOf t = 2)
    (h0 : DataW.trod enc P w base spare held n e [c0] = some y0) (h1 : DataW.trod enc P w base spare held n e [d0] = some y1) :
    DataW.trod enc P w base spare held (n + 1) t [c0, d0] = some (.agg [y0.1, y1.1], y0.2 ++ y1.2) := by
  unfold DataW.trod
  rw [ht]
  have r2 : List.range 2 = [0, 1] := rfl
  simp [r2, hce, hC, h0, h1]
theorem sp_arr2_3 {P : Program} {t e : TypeId} {fuel : Nat} {c0 c1 c2 d0 d1 d2 : Value} {x : DataW H × List MemPlace} (ht : P.underlying t = some (.array 2 e)) (hce : P.cellsOf e = 3)
    (h : DataW.trod enc P w base spare held fuel t [c0, c1, c2, d0, d1, d2] = some x) :
    ∃ y0 y1 n, x = (.agg [y0.1, y1.1], y0.2 ++ y1.2) ∧ DataW.trod enc P w base spare held n e [c0, c1, c2] = some y0 ∧ DataW.trod enc P w base spare held n e [d0, d1, d2] = some y1 := by
  cases fuel with
  | zero => simp [DataW.trod] at h
  | succ n =>
    unfold DataW.trod at h
    rw [ht] at h
    have r2 : List.range 2 = [0, 1] := rfl
    simp [r2, hce] at h
    obtain ⟨_, h⟩ := h
    cases h0 : DataW.trod enc P w base spare held n e [c0, c1, c2] with
    | none => simp [h0] at h
    | some y0 =>
      cases h1 : DataW.trod enc P w base spare held n e [d0, d1, d2] with
      | none => simp [h0, h1] at h
      | some y1 =>
        simp [h0, h1] at h
        exact ⟨y0, y1, n, h.symm, h0, h1⟩
theorem sp_arr2_3_mk {P : Program} {t e : TypeId} {n : Nat} {c0 c1 c2 d0 d1 d2 : Value} {y0 y1 : DataW H × List MemPlace} (ht : P.underlying t = some (.array 2 e)) (hce : P.cellsOf e = 3) (hC : P.cellsOf t = 6)
    (h0 : DataW.trod enc P w base spare held n e [c0, c1, c2] = some y0) (h1 : DataW.trod enc P w base spare held n e [d0, d1, d2] = some y1) :
    DataW.trod enc P w base spare held (n + 1) t [c0, c1, c2, d0, d1, d2] = some (.agg [y0.1, y1.1], y0.2 ++ y1.2) := by
  unfold DataW.trod
  rw [ht]
  have r2 : List.range 2 = [0, 1] := rfl
  simp [r2, hce, hC, h0, h1]
theorem sp_up {t : TypeId} {n m : Nat} {cs : List Value} {x : DataW H × List MemPlace} (h : DataW.trod enc Tryz.prog w base spare held n t cs = some x) (le : n ≤ m) : DataW.trod enc Tryz.prog w base spare held m t cs = some x := DataW.trod_le le h
set_option maxRecDepth 100000 in
theorem open_ir {r : Reach} {b0 : Nat} {v : Value} {d : DataW H} {p : List MemPlace} (hv : Value.okWide Tryz.prog w r b0 47 v) (h : DataW.Trod enc Tryz.prog w base spare held 47 v d p) :
    ∃ (b1 : Bool) (x2 : Int) (x3 : Int), v = .agg #[.bool b1, .int .i64 x2, .int .i64 x3] ∧ d = .agg [.lit (.bool b1), .lit (.int .i64 x2), .lit (.int .i64 x3)] ∧ p = [] ∧ (Lit.int .i64 x2).wf = true ∧ (Lit.int .i64 x3).wf = true := by
  obtain ⟨cs, rfl, hsz⟩ := okWide_struct Tryz.underlying47 hv
  obtain ⟨c0, c1, c2, rfl⟩ := sp_array3 (hsz.trans sc47)
  obtain ⟨fuel, hf⟩ := h
  obtain ⟨y0_0, y0_1, y0_2, n0, hx, _, h0_0, h0_1, h0_2⟩ := trod_struct3 Tryz.underlying47 hf
  simp only [Value.cells, sc4, sc2] at h0_0 h0_1 h0_2
  obtain ⟨b1, rfl, rfl⟩ := sp_bool h0_0
  obtain ⟨x2, ex2, rfl, wx2⟩ := DataW.trod_int Tryz.underlying2 h0_1
  simp at ex2
  subst ex2
  obtain ⟨x3, ex3, rfl, wx3⟩ := DataW.trod_int Tryz.underlying2 h0_2
  simp at ex3
  subst ex3
  simp only [Prod.mk.injEq, List.append_nil] at hx
  exact ⟨b1, x2, x3, rfl, hx.1, hx.2, wx2, wx3⟩
set_option maxRecDepth 100000 in
theorem shut_ir (b1 : Bool) {x2 x3 : Int} (wx2 : (Lit.int .i64 x2).wf = true) (wx3 : (Lit.int .i64 x3).wf = true) :
    DataW.Trod enc Tryz.prog w base spare held 47 (.agg #[.bool b1, .int .i64 x2, .int .i64 x3]) (.agg [.lit (.bool b1), .lit (.int .i64 x2), .lit (.int .i64 x3)]) [] := by
  have t0 : DataW.trod enc Tryz.prog w base spare held 2 47 [.bool b1, .int .i64 x2, .int .i64 x3] = some (.agg [.lit (.bool b1), .lit (.int .i64 x2), .lit (.int .i64 x3)], []) := by
    have := trod_struct3_mk (enc := enc) (w := w) (base := base) (spare := spare) (held := held) (n := 1) (cs := [.bool b1, .int .i64 x2, .int .i64 x3]) (y0 := (.lit (.bool b1), [])) (y1 := (.lit (.int .i64 x2), [])) (y2 := (.lit (.int .i64 x3), [])) Tryz.underlying47 (by simp [sc47]) (by simpa [sc4] using (sp_up (by simp [DataW.trod, Tryz.underlying4] : DataW.trod enc Tryz.prog w base spare held 1 4 [.bool b1] = some (.lit (.bool b1), [])) (by decide))) (by simpa [sc2] using (sp_up (by simp [DataW.trod, Tryz.underlying2, wx2] : DataW.trod enc Tryz.prog w base spare held 1 2 [.int .i64 x2] = some (.lit (.int .i64 x2), [])) (by decide))) (by simpa [sc2] using (sp_up (by simp [DataW.trod, Tryz.underlying2, wx3] : DataW.trod enc Tryz.prog w base spare held 1 2 [.int .i64 x3] = some (.lit (.int .i64 x3), [])) (by decide)))
    simpa using this
  exact ⟨2, by simpa [Value.cells] using t0⟩
set_option maxRecDepth 100000 in
theorem open_fr {r : Reach} {b0 : Nat} {v : Value} {d : DataW H} {p : List MemPlace} (hv : Value.okWide Tryz.prog w r b0 25 v) (h : DataW.Trod enc Tryz.prog w base spare held 25 v d p) :
    ∃ (b1 : Bool) (x2 : Int) (x3 : Int), v = .agg #[.bool b1, .int .u64 x2, .int .u64 x3] ∧ d = .agg [.lit (.bool b1), .lit (.int .u64 x2), .lit (.int .u64 x3)] ∧ p = [] ∧ (Lit.int .u64 x2).wf = true ∧ (Lit.int .u64 x3).wf = true := by
  obtain ⟨cs, rfl, hsz⟩ := okWide_struct Tryz.underlying25 hv
  obtain ⟨c0, c1, c2, rfl⟩ := sp_array3 (hsz.trans sc25)
  obtain ⟨fuel, hf⟩ := h
  obtain ⟨y0_0, y0_1, y0_2, n0, hx, _, h0_0, h0_1, h0_2⟩ := trod_struct3 Tryz.underlying25 hf
  simp only [Value.cells, sc4, sc23] at h0_0 h0_1 h0_2
  obtain ⟨b1, rfl, rfl⟩ := sp_bool h0_0
  obtain ⟨x2, ex2, rfl, wx2⟩ := DataW.trod_int Tryz.underlying23 h0_1
  simp at ex2
  subst ex2
  obtain ⟨x3, ex3, rfl, wx3⟩ := DataW.trod_int Tryz.underlying23 h0_2
  simp at ex3
  subst ex3
  simp only [Prod.mk.injEq, List.append_nil] at hx
  exact ⟨b1, x2, x3, rfl, hx.1, hx.2, wx2, wx3⟩
set_option maxRecDepth 100000 in
theorem shut_fr (b1 : Bool) {x2 x3 : Int} (wx2 : (Lit.int .u64 x2).wf = true) (wx3 : (Lit.int .u64 x3).wf = true) :
    DataW.Trod enc Tryz.prog w base spare held 25 (.agg #[.bool b1, .int .u64 x2, .int .u64 x3]) (.agg [.lit (.bool b1), .lit (.int .u64 x2), .lit (.int .u64 x3)]) [] := by
  have t0 : DataW.trod enc Tryz.prog w base spare held 2 25 [.bool b1, .int .u64 x2, .int .u64 x3] = some (.agg [.lit (.bool b1), .lit (.int .u64 x2), .lit (.int .u64 x3)], []) := by
    have := trod_struct3_mk (enc := enc) (w := w) (base := base) (spare := spare) (held := held) (n := 1) (cs := [.bool b1, .int .u64 x2, .int .u64 x3]) (y0 := (.lit (.bool b1), [])) (y1 := (.lit (.int .u64 x2), [])) (y2 := (.lit (.int .u64 x3), [])) Tryz.underlying25 (by simp [sc25]) (by simpa [sc4] using (sp_up (by simp [DataW.trod, Tryz.underlying4] : DataW.trod enc Tryz.prog w base spare held 1 4 [.bool b1] = some (.lit (.bool b1), [])) (by decide))) (by simpa [sc23] using (sp_up (by simp [DataW.trod, Tryz.underlying23, wx2] : DataW.trod enc Tryz.prog w base spare held 1 23 [.int .u64 x2] = some (.lit (.int .u64 x2), [])) (by decide))) (by simpa [sc23] using (sp_up (by simp [DataW.trod, Tryz.underlying23, wx3] : DataW.trod enc Tryz.prog w base spare held 1 23 [.int .u64 x3] = some (.lit (.int .u64 x3), [])) (by decide)))
    simpa using this
  exact ⟨2, by simpa [Value.cells] using t0⟩
set_option maxRecDepth 100000 in
theorem open_a2ir {r : Reach} {b0 : Nat} {v : Value} {d : DataW H} {p : List MemPlace} (hv : Value.okWide Tryz.prog w r b0 81 v) (h : DataW.Trod enc Tryz.prog w base spare held 81 v d p) :
    ∃ (b2 : Bool) (x3 : Int) (x4 : Int) (b6 : Bool) (x7 : Int) (x8 : Int), v = .agg #[.bool b2, .int .i64 x3, .int .i64 x4, .bool b6, .int .i64 x7, .int .i64 x8] ∧ d = .agg [.agg [.lit (.bool b2), .lit (.int .i64 x3), .lit (.int .i64 x4)], .agg [.lit (.bool b6), .lit (.int .i64 x7), .lit (.int .i64 x8)]] ∧ p = [] ∧ (Lit.int .i64 x3).wf = true ∧ (Lit.int .i64 x4).wf = true ∧ (Lit.int .i64 x7).wf = true ∧ (Lit.int .i64 x8).wf = true := by
  obtain ⟨cs, rfl, hsz⟩ := sp_okarr Tryz.underlying81 hv
  obtain ⟨c0, c1, c2, c3, c4, c5, rfl⟩ := sp_array6 (hsz.trans sc81)
  obtain ⟨fuel, hf⟩ := h
  simp only [Value.cells] at hf
  obtain ⟨y0_0, y0_1, n0, hx, h0_0, h0_1⟩ := sp_arr2_3 Tryz.underlying81 sc47 hf
  obtain ⟨y1_0, y1_1, y1_2, n1, rfl, _, h1_0, h1_1, h1_2⟩ := trod_struct3 Tryz.underlying47 h0_0
  simp only [Value.cells, sc4, sc2] at h1_0 h1_1 h1_2
  obtain ⟨b2, rfl, rfl⟩ := sp_bool h1_0
  obtain ⟨x3, ex3, rfl, wx3⟩ := DataW.trod_int Tryz.underlying2 h1_1
  simp at ex3
  subst ex3
  obtain ⟨x4, ex4, rfl, wx4⟩ := DataW.trod_int Tryz.underlying2 h1_2
  simp at ex4
  subst ex4
  obtain ⟨y5_0, y5_1, y5_2, n5, rfl, _, h5_0, h5_1, h5_2⟩ := trod_struct3 Tryz.underlying47 h0_1
  simp only [Value.cells, sc4, sc2] at h5_0 h5_1 h5_2
  obtain ⟨b6, rfl, rfl⟩ := sp_bool h5_0
  obtain ⟨x7, ex7, rfl, wx7⟩ := DataW.trod_int Tryz.underlying2 h5_1
  simp at ex7
  subst ex7
  obtain ⟨x8, ex8, rfl, wx8⟩ := DataW.trod_int Tryz.underlying2 h5_2
  simp at ex8
  subst ex8
  simp only [Prod.mk.injEq, List.append_nil] at hx
  exact ⟨b2, x3, x4, b6, x7, x8, rfl, hx.1, hx.2, wx3, wx4, wx7, wx8⟩
set_option maxRecDepth 100000 in
theorem shut_a2ir (b2 : Bool) (b6 : Bool) {x3 x4 x7 x8 : Int} (wx3 : (Lit.int .i64 x3).wf = true) (wx4 : (Lit.int .i64 x4).wf = true) (wx7 : (Lit.int .i64 x7).wf = true) (wx8 : (Lit.int .i64 x8).wf = true) :
    DataW.Trod enc Tryz.prog w base spare held 81 (.agg #[.bool b2, .int .i64 x3, .int .i64 x4, .bool b6, .int .i64 x7, .int .i64 x8]) (.agg [.agg [.lit (.bool b2), .lit (.int .i64 x3), .lit (.int .i64 x4)], .agg [.lit (.bool b6), .lit (.int .i64 x7), .lit (.int .i64 x8)]]) [] := by
  have t0 : DataW.trod enc Tryz.prog w base spare held 2 47 [.bool b2, .int .i64 x3, .int .i64 x4] = some (.agg [.lit (.bool b2), .lit (.int .i64 x3), .lit (.int .i64 x4)], []) := by
    have := trod_struct3_mk (enc := enc) (w := w) (base := base) (spare := spare) (held := held) (n := 1) (cs := [.bool b2, .int .i64 x3, .int .i64 x4]) (y0 := (.lit (.bool b2), [])) (y1 := (.lit (.int .i64 x3), [])) (y2 := (.lit (.int .i64 x4), [])) Tryz.underlying47 (by simp [sc47]) (by simpa [sc4] using (sp_up (by simp [DataW.trod, Tryz.underlying4] : DataW.trod enc Tryz.prog w base spare held 1 4 [.bool b2] = some (.lit (.bool b2), [])) (by decide))) (by simpa [sc2] using (sp_up (by simp [DataW.trod, Tryz.underlying2, wx3] : DataW.trod enc Tryz.prog w base spare held 1 2 [.int .i64 x3] = some (.lit (.int .i64 x3), [])) (by decide))) (by simpa [sc2] using (sp_up (by simp [DataW.trod, Tryz.underlying2, wx4] : DataW.trod enc Tryz.prog w base spare held 1 2 [.int .i64 x4] = some (.lit (.int .i64 x4), [])) (by decide)))
    simpa using this
  have t1 : DataW.trod enc Tryz.prog w base spare held 2 47 [.bool b6, .int .i64 x7, .int .i64 x8] = some (.agg [.lit (.bool b6), .lit (.int .i64 x7), .lit (.int .i64 x8)], []) := by
    have := trod_struct3_mk (enc := enc) (w := w) (base := base) (spare := spare) (held := held) (n := 1) (cs := [.bool b6, .int .i64 x7, .int .i64 x8]) (y0 := (.lit (.bool b6), [])) (y1 := (.lit (.int .i64 x7), [])) (y2 := (.lit (.int .i64 x8), [])) Tryz.underlying47 (by simp [sc47]) (by simpa [sc4] using (sp_up (by simp [DataW.trod, Tryz.underlying4] : DataW.trod enc Tryz.prog w base spare held 1 4 [.bool b6] = some (.lit (.bool b6), [])) (by decide))) (by simpa [sc2] using (sp_up (by simp [DataW.trod, Tryz.underlying2, wx7] : DataW.trod enc Tryz.prog w base spare held 1 2 [.int .i64 x7] = some (.lit (.int .i64 x7), [])) (by decide))) (by simpa [sc2] using (sp_up (by simp [DataW.trod, Tryz.underlying2, wx8] : DataW.trod enc Tryz.prog w base spare held 1 2 [.int .i64 x8] = some (.lit (.int .i64 x8), [])) (by decide)))
    simpa using this
  have t2 : DataW.trod enc Tryz.prog w base spare held 3 81 [.bool b2, .int .i64 x3, .int .i64 x4, .bool b6, .int .i64 x7, .int .i64 x8] = some (.agg [.agg [.lit (.bool b2), .lit (.int .i64 x3), .lit (.int .i64 x4)], .agg [.lit (.bool b6), .lit (.int .i64 x7), .lit (.int .i64 x8)]], []) := by
    have := sp_arr2_3_mk (enc := enc) (w := w) (base := base) (spare := spare) (held := held) (n := 2) (y0 := (.agg [.lit (.bool b2), .lit (.int .i64 x3), .lit (.int .i64 x4)], [])) (y1 := (.agg [.lit (.bool b6), .lit (.int .i64 x7), .lit (.int .i64 x8)], [])) Tryz.underlying81 sc47 sc81 (sp_up t0 (by decide)) (sp_up t1 (by decide))
    simpa using this
  exact ⟨3, by simpa [Value.cells] using t2⟩
set_option maxRecDepth 100000 in
theorem open_a2i {r : Reach} {b0 : Nat} {v : Value} {d : DataW H} {p : List MemPlace} (hv : Value.okWide Tryz.prog w r b0 82 v) (h : DataW.Trod enc Tryz.prog w base spare held 82 v d p) :
    ∃ (x1 : Int) (x2 : Int), v = .agg #[.int .i64 x1, .int .i64 x2] ∧ d = .agg [.lit (.int .i64 x1), .lit (.int .i64 x2)] ∧ p = [] ∧ (Lit.int .i64 x1).wf = true ∧ (Lit.int .i64 x2).wf = true := by
  obtain ⟨cs, rfl, hsz⟩ := sp_okarr Tryz.underlying82 hv
  obtain ⟨c0, c1, rfl⟩ := sp_array2 (hsz.trans sc82)
  obtain ⟨fuel, hf⟩ := h
  simp only [Value.cells] at hf
  obtain ⟨y0_0, y0_1, n0, hx, h0_0, h0_1⟩ := sp_arr2_1 Tryz.underlying82 sc2 hf
  obtain ⟨x1, ex1, rfl, wx1⟩ := DataW.trod_int Tryz.underlying2 h0_0
  simp at ex1
  subst ex1
  obtain ⟨x2, ex2, rfl, wx2⟩ := DataW.trod_int Tryz.underlying2 h0_1
  simp at ex2
  subst ex2
  simp only [Prod.mk.injEq, List.append_nil] at hx
  exact ⟨x1, x2, rfl, hx.1, hx.2, wx1, wx2⟩
set_option maxRecDepth 100000 in
theorem shut_a2i  {x1 x2 : Int} (wx1 : (Lit.int .i64 x1).wf = true) (wx2 : (Lit.int .i64 x2).wf = true) :
    DataW.Trod enc Tryz.prog w base spare held 82 (.agg #[.int .i64 x1, .int .i64 x2]) (.agg [.lit (.int .i64 x1), .lit (.int .i64 x2)]) [] := by
  have t0 : DataW.trod enc Tryz.prog w base spare held 2 82 [.int .i64 x1, .int .i64 x2] = some (.agg [.lit (.int .i64 x1), .lit (.int .i64 x2)], []) := by
    have := sp_arr2_1_mk (enc := enc) (w := w) (base := base) (spare := spare) (held := held) (n := 1) (y0 := (.lit (.int .i64 x1), [])) (y1 := (.lit (.int .i64 x2), [])) Tryz.underlying82 sc2 sc82 (sp_up (by simp [DataW.trod, Tryz.underlying2, wx1] : DataW.trod enc Tryz.prog w base spare held 1 2 [.int .i64 x1] = some (.lit (.int .i64 x1), [])) (by decide)) (sp_up (by simp [DataW.trod, Tryz.underlying2, wx2] : DataW.trod enc Tryz.prog w base spare held 1 2 [.int .i64 x2] = some (.lit (.int .i64 x2), [])) (by decide))
    simpa using this
  exact ⟨2, by simpa [Value.cells] using t0⟩
set_option maxRecDepth 100000 in
theorem open_a2u {r : Reach} {b0 : Nat} {v : Value} {d : DataW H} {p : List MemPlace} (hv : Value.okWide Tryz.prog w r b0 67 v) (h : DataW.Trod enc Tryz.prog w base spare held 67 v d p) :
    ∃ (x1 : Int) (x2 : Int), v = .agg #[.int .u64 x1, .int .u64 x2] ∧ d = .agg [.lit (.int .u64 x1), .lit (.int .u64 x2)] ∧ p = [] ∧ (Lit.int .u64 x1).wf = true ∧ (Lit.int .u64 x2).wf = true := by
  obtain ⟨cs, rfl, hsz⟩ := sp_okarr Tryz.underlying67 hv
  obtain ⟨c0, c1, rfl⟩ := sp_array2 (hsz.trans sc67)
  obtain ⟨fuel, hf⟩ := h
  simp only [Value.cells] at hf
  obtain ⟨y0_0, y0_1, n0, hx, h0_0, h0_1⟩ := sp_arr2_1 Tryz.underlying67 sc23 hf
  obtain ⟨x1, ex1, rfl, wx1⟩ := DataW.trod_int Tryz.underlying23 h0_0
  simp at ex1
  subst ex1
  obtain ⟨x2, ex2, rfl, wx2⟩ := DataW.trod_int Tryz.underlying23 h0_1
  simp at ex2
  subst ex2
  simp only [Prod.mk.injEq, List.append_nil] at hx
  exact ⟨x1, x2, rfl, hx.1, hx.2, wx1, wx2⟩
set_option maxRecDepth 100000 in
theorem shut_a2u  {x1 x2 : Int} (wx1 : (Lit.int .u64 x1).wf = true) (wx2 : (Lit.int .u64 x2).wf = true) :
    DataW.Trod enc Tryz.prog w base spare held 67 (.agg #[.int .u64 x1, .int .u64 x2]) (.agg [.lit (.int .u64 x1), .lit (.int .u64 x2)]) [] := by
  have t0 : DataW.trod enc Tryz.prog w base spare held 2 67 [.int .u64 x1, .int .u64 x2] = some (.agg [.lit (.int .u64 x1), .lit (.int .u64 x2)], []) := by
    have := sp_arr2_1_mk (enc := enc) (w := w) (base := base) (spare := spare) (held := held) (n := 1) (y0 := (.lit (.int .u64 x1), [])) (y1 := (.lit (.int .u64 x2), [])) Tryz.underlying67 sc23 sc67 (sp_up (by simp [DataW.trod, Tryz.underlying23, wx1] : DataW.trod enc Tryz.prog w base spare held 1 23 [.int .u64 x1] = some (.lit (.int .u64 x1), [])) (by decide)) (sp_up (by simp [DataW.trod, Tryz.underlying23, wx2] : DataW.trod enc Tryz.prog w base spare held 1 23 [.int .u64 x2] = some (.lit (.int .u64 x2), [])) (by decide))
    simpa using this
  exact ⟨2, by simpa [Value.cells] using t0⟩
set_option maxRecDepth 100000 in
theorem open_two {r : Reach} {b0 : Nat} {v : Value} {d : DataW H} {p : List MemPlace} (hv : Value.okWide Tryz.prog w r b0 27 v) (h : DataW.Trod enc Tryz.prog w base spare held 27 v d p) :
    ∃ (x1 : Int) (b3 : Bool) (x4 : Int) (x5 : Int) (b7 : Bool) (x8 : Int) (x9 : Int), v = .agg #[.int .i64 x1, .bool b3, .int .u64 x4, .int .u64 x5, .bool b7, .int .u64 x8, .int .u64 x9] ∧ d = .agg [.lit (.int .i64 x1), .agg [.lit (.bool b3), .lit (.int .u64 x4), .lit (.int .u64 x5)], .agg [.lit (.bool b7), .lit (.int .u64 x8), .lit (.int .u64 x9)]] ∧ p = [] ∧ (Lit.int .i64 x1).wf = true ∧ (Lit.int .u64 x4).wf = true ∧ (Lit.int .u64 x5).wf = true ∧ (Lit.int .u64 x8).wf = true ∧ (Lit.int .u64 x9).wf = true := by
  obtain ⟨cs, rfl, hsz⟩ := okWide_struct Tryz.underlying27 hv
  obtain ⟨c0, c1, c2, c3, c4, c5, c6, rfl⟩ := sp_array7 (hsz.trans sc27)
  obtain ⟨fuel, hf⟩ := h
  obtain ⟨y0_0, y0_1, y0_2, n0, hx, _, h0_0, h0_1, h0_2⟩ := trod_struct3 Tryz.underlying27 hf
  simp only [Value.cells, sc22, sc25] at h0_0 h0_1 h0_2
  obtain ⟨x1, ex1, rfl, wx1⟩ := DataW.trod_int Tryz.underlying22 h0_0
  simp at ex1
  subst ex1
  obtain ⟨y2_0, y2_1, y2_2, n2, rfl, _, h2_0, h2_1, h2_2⟩ := trod_struct3 Tryz.underlying25 h0_1
  simp only [Value.cells, sc4, sc23] at h2_0 h2_1 h2_2
  obtain ⟨b3, rfl, rfl⟩ := sp_bool h2_0
  obtain ⟨x4, ex4, rfl, wx4⟩ := DataW.trod_int Tryz.underlying23 h2_1
  simp at ex4
  subst ex4
  obtain ⟨x5, ex5, rfl, wx5⟩ := DataW.trod_int Tryz.underlying23 h2_2
  simp at ex5
  subst ex5
  obtain ⟨y6_0, y6_1, y6_2, n6, rfl, _, h6_0, h6_1, h6_2⟩ := trod_struct3 Tryz.underlying25 h0_2
  simp only [Value.cells, sc4, sc23] at h6_0 h6_1 h6_2
  obtain ⟨b7, rfl, rfl⟩ := sp_bool h6_0
  obtain ⟨x8, ex8, rfl, wx8⟩ := DataW.trod_int Tryz.underlying23 h6_1
  simp at ex8
  subst ex8
  obtain ⟨x9, ex9, rfl, wx9⟩ := DataW.trod_int Tryz.underlying23 h6_2
  simp at ex9
  subst ex9
  simp only [Prod.mk.injEq, List.append_nil] at hx
  exact ⟨x1, b3, x4, x5, b7, x8, x9, rfl, hx.1, hx.2, wx1, wx4, wx5, wx8, wx9⟩
set_option maxRecDepth 100000 in
theorem shut_two (b3 : Bool) (b7 : Bool) {x1 x4 x5 x8 x9 : Int} (wx1 : (Lit.int .i64 x1).wf = true) (wx4 : (Lit.int .u64 x4).wf = true) (wx5 : (Lit.int .u64 x5).wf = true) (wx8 : (Lit.int .u64 x8).wf = true) (wx9 : (Lit.int .u64 x9).wf = true) :
    DataW.Trod enc Tryz.prog w base spare held 27 (.agg #[.int .i64 x1, .bool b3, .int .u64 x4, .int .u64 x5, .bool b7, .int .u64 x8, .int .u64 x9]) (.agg [.lit (.int .i64 x1), .agg [.lit (.bool b3), .lit (.int .u64 x4), .lit (.int .u64 x5)], .agg [.lit (.bool b7), .lit (.int .u64 x8), .lit (.int .u64 x9)]]) [] := by
  have t0 : DataW.trod enc Tryz.prog w base spare held 2 25 [.bool b3, .int .u64 x4, .int .u64 x5] = some (.agg [.lit (.bool b3), .lit (.int .u64 x4), .lit (.int .u64 x5)], []) := by
    have := trod_struct3_mk (enc := enc) (w := w) (base := base) (spare := spare) (held := held) (n := 1) (cs := [.bool b3, .int .u64 x4, .int .u64 x5]) (y0 := (.lit (.bool b3), [])) (y1 := (.lit (.int .u64 x4), [])) (y2 := (.lit (.int .u64 x5), [])) Tryz.underlying25 (by simp [sc25]) (by simpa [sc4] using (sp_up (by simp [DataW.trod, Tryz.underlying4] : DataW.trod enc Tryz.prog w base spare held 1 4 [.bool b3] = some (.lit (.bool b3), [])) (by decide))) (by simpa [sc23] using (sp_up (by simp [DataW.trod, Tryz.underlying23, wx4] : DataW.trod enc Tryz.prog w base spare held 1 23 [.int .u64 x4] = some (.lit (.int .u64 x4), [])) (by decide))) (by simpa [sc23] using (sp_up (by simp [DataW.trod, Tryz.underlying23, wx5] : DataW.trod enc Tryz.prog w base spare held 1 23 [.int .u64 x5] = some (.lit (.int .u64 x5), [])) (by decide)))
    simpa using this
  have t1 : DataW.trod enc Tryz.prog w base spare held 2 25 [.bool b7, .int .u64 x8, .int .u64 x9] = some (.agg [.lit (.bool b7), .lit (.int .u64 x8), .lit (.int .u64 x9)], []) := by
    have := trod_struct3_mk (enc := enc) (w := w) (base := base) (spare := spare) (held := held) (n := 1) (cs := [.bool b7, .int .u64 x8, .int .u64 x9]) (y0 := (.lit (.bool b7), [])) (y1 := (.lit (.int .u64 x8), [])) (y2 := (.lit (.int .u64 x9), [])) Tryz.underlying25 (by simp [sc25]) (by simpa [sc4] using (sp_up (by simp [DataW.trod, Tryz.underlying4] : DataW.trod enc Tryz.prog w base spare held 1 4 [.bool b7] = some (.lit (.bool b7), [])) (by decide))) (by simpa [sc23] using (sp_up (by simp [DataW.trod, Tryz.underlying23, wx8] : DataW.trod enc Tryz.prog w base spare held 1 23 [.int .u64 x8] = some (.lit (.int .u64 x8), [])) (by decide))) (by simpa [sc23] using (sp_up (by simp [DataW.trod, Tryz.underlying23, wx9] : DataW.trod enc Tryz.prog w base spare held 1 23 [.int .u64 x9] = some (.lit (.int .u64 x9), [])) (by decide)))
    simpa using this
  have t2 : DataW.trod enc Tryz.prog w base spare held 3 27 [.int .i64 x1, .bool b3, .int .u64 x4, .int .u64 x5, .bool b7, .int .u64 x8, .int .u64 x9] = some (.agg [.lit (.int .i64 x1), .agg [.lit (.bool b3), .lit (.int .u64 x4), .lit (.int .u64 x5)], .agg [.lit (.bool b7), .lit (.int .u64 x8), .lit (.int .u64 x9)]], []) := by
    have := trod_struct3_mk (enc := enc) (w := w) (base := base) (spare := spare) (held := held) (n := 2) (cs := [.int .i64 x1, .bool b3, .int .u64 x4, .int .u64 x5, .bool b7, .int .u64 x8, .int .u64 x9]) (y0 := (.lit (.int .i64 x1), [])) (y1 := (.agg [.lit (.bool b3), .lit (.int .u64 x4), .lit (.int .u64 x5)], [])) (y2 := (.agg [.lit (.bool b7), .lit (.int .u64 x8), .lit (.int .u64 x9)], [])) Tryz.underlying27 (by simp [sc27]) (by simpa [sc22] using (sp_up (by simp [DataW.trod, Tryz.underlying22, wx1] : DataW.trod enc Tryz.prog w base spare held 1 22 [.int .i64 x1] = some (.lit (.int .i64 x1), [])) (by decide))) (by simpa [sc25] using (sp_up t0 (by decide))) (by simpa [sc25] using (sp_up t1 (by decide)))
    simpa using this
  exact ⟨3, by simpa [Value.cells] using t2⟩
end
end Go.Proofs.YthjoigkckgdcaaaGreat
