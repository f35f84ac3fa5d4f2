/- A row of small ints that comes in. -/
import Derived.Test.YtdfbmafeemflaaaSpAid
namespace Go.Proofs.Ytdfbmafeemflaaa
open Go.ChangeShapes Go.WideShapes Go.ChangeAt Go.RowKit Go.Joins Go.Deep
set_option linter.unusedVariables false
set_option linter.unusedSimpArgs false
theorem pick_lt {α : Type} [Inhabited α] {m : Nat} {P : Nat → α → Prop} (h : ∀ i, i < m → ∃ t, P i t) : ∃ q : Nat → α, ∀ i, i < m → P i (q i) :=
  ⟨fun i => if hi : i < m then Classical.choose (h i hi) else default, fun i hi => by simp only [dif_pos hi]; exact Classical.choose_spec (h i hi)⟩
theorem open_row {H : Type} {enc : TypeId × Value → H} {W : World} {base m : Nat} {t e : TypeId} {K : IntKind} {v : Value} {d : DataW H} {p : List MemPlace} (ht : Try.prog.underlying t = some (.array m e)) (he : Try.prog.underlying e = some (.int K)) (hce : Try.prog.cellsOf e = 1) (hct : Try.prog.cellsOf t = m)
    (hv : Value.okWide Try.prog W .any base t v) (h : DataW.Trod enc Try.prog W 0 (fun _ => true) true t v d p) :
    ∃ (A : Array Value) (z : Nat → Int), v = .agg A ∧ (∀ j, j < m → (Lit.int K (z j)).wf = true ∧ A[j]? = some (.int K (z j))) ∧ ∀ x ∈ p, x.block < W.heap.size := by
  obtain ⟨cs, rfl, hsz⟩ := sp_okarr ht hv
  rw [hct] at hsz
  obtain ⟨fuel, hf⟩ := h
  simp only [Value.cells] at hf
  obtain ⟨xs, k, rfl, hx, hlen, hxl, hall⟩ := DataW.trod_array ht hf
  have each : ∀ i, i < m → ∃ t : Int, ((Lit.int K t).wf = true ∧ cs[i]? = some (.int K t)) ∧ ∀ y, xs[i]? = some y → y.2 = [] := by
    intro i hi
    obtain ⟨y, hy⟩ : ∃ y, xs[i]? = some y := ⟨_, List.getElem?_eq_getElem (by omega)⟩
    have h1 := hall i hi
    rw [hce, hy, Nat.mul_one] at h1
    obtain ⟨c, hc⟩ : ∃ c, cs[i]? = some c := ⟨_, Array.getElem?_eq_getElem (by omega)⟩
    have hd : (cs.toList.drop i).take 1 = [c] := by
      have hi' : i < cs.toList.length := by simp; omega
      rw [List.drop_eq_getElem_cons hi', List.take_succ_cons, List.take_zero]
      have : cs.toList[i]? = some c := by simpa using hc
      rw [List.getElem?_eq_getElem hi'] at this
      simpa using this
    rw [hd] at h1
    obtain ⟨x, ex, rfl, wx⟩ := DataW.trod_int he h1
    simp at ex
    subst ex
    exact ⟨x, ⟨wx, hc⟩, fun y' hy' => by rw [hy] at hy'; cases hy'; rfl⟩
  obtain ⟨q, hq⟩ := pick_lt each
  simp only [Prod.mk.injEq] at hx
  refine ⟨cs, q, rfl, fun j hj => (hq j hj).1, fun x hxp => ?_⟩
  rw [hx.2] at hxp
  obtain ⟨y, hy, hxy⟩ := List.mem_flatMap.1 hxp
  obtain ⟨i, hi, rfl⟩ := List.getElem_of_mem hy
  rw [(hq i (by omega)).2 _ (List.getElem?_eq_getElem hi)] at hxy
  simp at hxy
set_option maxRecDepth 100000 in
theorem open_a7 {H : Type} {enc : TypeId × Value → H} {W : World} {base : Nat} {v : Value} {d : DataW H} {p : List MemPlace} (hv : Value.okWide Try.prog W .any base 44 v) (h : DataW.Trod enc Try.prog W 0 (fun _ => true) true 44 v d p) :
    ∃ (A : Array Value) (z : Nat → Int), v = .agg A ∧ (∀ j, 0 ≤ z j ∧ z j ≤ 65535) ∧ (∀ j, j < 7 → A[j]? = some (.int .u16 (z j))) ∧ ∀ x ∈ p, x.block < W.heap.size := by
  obtain ⟨A, z, rfl, hz, hp⟩ := open_row Try.underlying44 Try.underlying43 (by kernel_rfl) (by kernel_rfl) hv h
  refine ⟨A, fun j => if j < 7 then z j else 0, rfl, fun j => ?_, fun j hj => ?_, hp⟩
  · show 0 ≤ (if j < 7 then z j else 0) ∧ (if j < 7 then z j else 0) ≤ 65535
    split
    · rename_i hj
      have := (hz j hj).1
      simp [Lit.wf, IntKind.min, IntKind.max, IntKind.signed, IntKind.bits] at this
      omega
    · omega
  · show A[j]? = some (.int .u16 (if j < 7 then z j else 0))
    rw [if_pos hj]
    exact (hz j hj).2
set_option maxRecDepth 100000 in
theorem open_a2s {H : Type} {enc : TypeId × Value → H} {W : World} {base : Nat} {v : Value} {d : DataW H} {p : List MemPlace} (hv : Value.okWide Try.prog W .any base 47 v) (h : DataW.Trod enc Try.prog W 0 (fun _ => true) true 47 v d p) :
    ∃ (A : Array Value) (z : Nat → Int), v = .agg A ∧ (∀ j, j < 2 → -32768 ≤ z j ∧ z j ≤ 32767) ∧ (∀ j, j < 2 → A[j]? = some (.int .i16 (z j))) ∧ ∀ x ∈ p, x.block < W.heap.size := by
  obtain ⟨A, z, rfl, hz, hp⟩ := open_row Try.underlying47 Try.underlying46 (by kernel_rfl) (by kernel_rfl) hv h
  exact ⟨A, z, rfl, fun j hj => bounds_i16 (hz j hj).1, fun j hj => (hz j hj).2, hp⟩
set_option maxRecDepth 100000 in
theorem open_boolv {H : Type} {enc : TypeId × Value → H} {W : World} {base : Nat} {v : Value} {d : DataW H} {p : List MemPlace} (hv : Value.okWide Try.prog W .any base 4 v) (h : DataW.Trod enc Try.prog W 0 (fun _ => true) true 4 v d p) : ∃ b : Bool, v = .bool b ∧ d = .lit (.bool b) ∧ p = [] := by
  obtain ⟨fuel, hf⟩ := h
  have key : ∃ b, v = .bool b := by
    cases v <;> first | exact ⟨_, rfl⟩ | (exfalso; simp [Value.okWide, Cell.okWide, Cell.ok, Try.underlying4] at hv)
  obtain ⟨b, rfl⟩ := key
  simp only [Value.cells] at hf
  obtain ⟨b', e, hx⟩ := sp_bool hf
  cases e
  simp only [Prod.mk.injEq] at hx
  exact ⟨b, rfl, hx.1, hx.2⟩
end Go.Proofs.Ytdfbmafeemflaaa

