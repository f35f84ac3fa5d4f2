/- Texts of the proof, put together. -/
import Derived.Test.YtpcbammncaeimaaRows
import Derived.ProofKit
import Derived.OpenShut
import Derived.ChangeOld
import Derived.Lib.SmallJoins
import Derived.Deep.Strs
import Derived.Test.YtpcbammncaeimaaZG14
import Derived.Deep.Slices
import Derived.Carry
namespace Go.Proofs.Ytpcbammncaeimaa
open Go.ChangeShapes Go.WideShapes Go.ChangeAt Go.RowKit Go.Joins Go.Deep
set_option linter.unusedVariables false
set_option linter.unusedSimpArgs false
set_option maxRecDepth 100000 in
theorem sc39 : Try.prog.cellsOf 39 = 3 := by kernel_rfl
set_option maxRecDepth 100000 in
theorem sc4 : Try.prog.cellsOf 4 = 1 := by kernel_rfl
set_option maxRecDepth 100000 in
theorem sc2 : Try.prog.cellsOf 2 = 1 := by kernel_rfl
section
variable {H : Type} {enc : TypeId × Value → H} {w : World} {base : Nat} {spare : Nat → Bool} {held : Bool}
set_option maxRecDepth 100000 in
theorem sp_bool {n : Nat} {c : Value} {y : DataW H × List MemPlace} (h : DataW.trod enc Try.prog w base spare held n 4 [c] = some y) : ∃ b : Bool, c = .bool b ∧ y = (.lit (.bool b), []) := by
  cases n with
  | zero => simp [DataW.trod] at h
  | succ n =>
    unfold DataW.trod at h
    rw [Try.underlying4] at h
    cases c <;> simp at h
    exact ⟨_, rfl, h.symm⟩
end
end Go.Proofs.Ytpcbammncaeimaa


namespace Go.Proofs.Ytpcbammncaeimaa
open Go.ChangeShapes Go.WideShapes Go.ChangeAt Go.RowKit Go.Joins Go.Deep
set_option linter.unusedVariables false
set_option linter.unusedSimpArgs false
theorem trod_struct7 {H : Type} {enc : TypeId × Value → H} {P : Program} {w : World} {base : Nat} {spare : Nat → Bool} {held : Bool} {t : TypeId} {f0 f1 f2 f3 f4 f5 f6 : Field} {fuel : Nat} {cs : List Value} {x : DataW H × List MemPlace} (ht : P.underlying t = some (.struct #[f0, f1, f2, f3, f4, f5, f6])) (h : DataW.trod enc P w base spare held fuel t cs = some x) :
    ∃ y0 y1 y2 y3 y4 y5 y6 n, x.2 = y0.2 ++ (y1.2 ++ (y2.2 ++ (y3.2 ++ (y4.2 ++ (y5.2 ++ y6.2))))) ∧ DataW.trod enc P w base spare held n f0.type ((cs.drop f0.offset).take (P.cellsOf f0.type)) = some y0 ∧ DataW.trod enc P w base spare held n f1.type ((cs.drop f1.offset).take (P.cellsOf f1.type)) = some y1 ∧ DataW.trod enc P w base spare held n f2.type ((cs.drop f2.offset).take (P.cellsOf f2.type)) = some y2 ∧ DataW.trod enc P w base spare held n f3.type ((cs.drop f3.offset).take (P.cellsOf f3.type)) = some y3 ∧ DataW.trod enc P w base spare held n f4.type ((cs.drop f4.offset).take (P.cellsOf f4.type)) = some y4 ∧ DataW.trod enc P w base spare held n f5.type ((cs.drop f5.offset).take (P.cellsOf f5.type)) = some y5 ∧ DataW.trod enc P w base spare held n f6.type ((cs.drop f6.offset).take (P.cellsOf f6.type)) = some y6 := by
  obtain ⟨xs, n, _, rfl, hl, hlen, hf⟩ := DataW.trod_struct ht h
  match xs, hlen with
  | [y0, y1, y2, y3, y4, y5, y6], _ => exact ⟨y0, y1, y2, y3, y4, y5, y6, n, by simp, by simpa using hf 0 f0 rfl, by simpa using hf 1 f1 rfl, by simpa using hf 2 f2 rfl, by simpa using hf 3 f3 rfl, by simpa using hf 4 f4 rfl, by simpa using hf 5 f5 rfl, by simpa using hf 6 f6 rfl⟩
set_option maxRecDepth 100000 in
theorem sc_deed : Try.prog.cellsOf 41 = 9 := by kernel_rfl
set_option maxRecDepth 100000 in
theorem sc_int : Try.prog.cellsOf 3 = 1 := by kernel_rfl
end Go.Proofs.Ytpcbammncaeimaa


namespace Go.Proofs.Ytpcbammncaeimaa
open Go.ChangeShapes Go.WideShapes Go.ChangeAt Go.RowKit Go.Joins Go.Deep
set_option linter.unusedVariables false
set_option linter.unusedSimpArgs false
theorem od_int {x : Int} (h : (Lit.int .i64 x).wf = true) : -9223372036854775808 ≤ x ∧ x ≤ 9223372036854775807 := by
  simp [Lit.wf, IntKind.min, IntKind.max, IntKind.signed, IntKind.bits] at h
  exact ⟨by omega, by omega⟩
theorem u8_of {x : Int} (h : (Lit.int .u8 x).wf = true) : 0 ≤ x ∧ x ≤ 255 := by
  simp [Lit.wf, IntKind.min, IntKind.max, IntKind.signed, IntKind.bits] at h
  exact ⟨by omega, by omega⟩
theorem pick_d {m : Nat} {P : Nat → Dd → Prop} (h : ∀ i, i < m → ∃ t, P i t) : ∃ q : Nat → Dd, ∀ i, i < m → P i (q i) :=
  ⟨fun i => if hi : i < m then Classical.choose (h i hi) else ⟨0, 0, 0, false, false, 0, false, 0, 0⟩, fun i hi => by simp only [dif_pos hi]; exact Classical.choose_spec (h i hi)⟩
section
variable {H : Type} {enc : TypeId × Value → H} {W : World}
set_option maxRecDepth 100000 in
theorem tr_deed {base : Nat} {sp : Nat → Bool} {hd : Bool} {n : Nat} {cs : List Value} {y : DataW H × List MemPlace} (hl : cs.length = 9) (h : DataW.trod enc Try.prog W base sp hd n 41 cs = some y) : ∃ d : Dd, cs = d.cell ∧ y.2 = [] ∧ d.ok := by
  match cs, hl with
  | [q0, q1, q2, q3, q4, q5, q6, q7, q8], _ =>
    obtain ⟨y0, y1, y2, y3, y4, y5, y6, n, hp, h0, h1, h2, h3, h4, h5, h6⟩ := trod_struct7 Try.underlying41 h
    simp only [Value.cells, sc_int, sc4, sc2, sc39] at h0 h1 h2 h3 h4 h5 h6
    obtain ⟨kd, e0, rfl, _⟩ := DataW.trod_int Try.underlying3 h0
    obtain ⟨i, e1, rfl, _⟩ := DataW.trod_int Try.underlying3 h1
    obtain ⟨k, e2, rfl, _⟩ := DataW.trod_int Try.underlying3 h2
    obtain ⟨ni, rfl, rfl⟩ := sp_bool h3
    obtain ⟨nk, rfl, rfl⟩ := sp_bool h4
    obtain ⟨c, e5, rfl, _⟩ := DataW.trod_int Try.underlying2 h5
    obtain ⟨z0, z1, z2, m, rfl, _, g0, g1, g2⟩ := trod_struct3 Try.underlying39 h6
    simp only [Value.cells, sc4, sc2] at g0 g1 g2
    obtain ⟨e, rfl, rfl⟩ := sp_bool g0
    obtain ⟨lo, e7, rfl, w7⟩ := DataW.trod_int Try.underlying2 g1
    obtain ⟨hh, e8, rfl, w8⟩ := DataW.trod_int Try.underlying2 g2
    simp at e0 e1 e2 e5 e7 e8
    subst e0 e1 e2 e5 e7 e8
    refine ⟨⟨kd, i, k, ni, nk, c, e, lo, hh⟩, rfl, ?_, od_int w7, od_int w8⟩
    simp at hp
    exact hp
set_option maxRecDepth 100000 in
theorem tr_deeds {n : Nat} {v : Value} {y : DataW H × List MemPlace} (hs : ∀ a l c, v = .slice (some a) l c → a.spot = none) (h : DataW.trod enc Try.prog W 0 (fun _ => true) true n 22 [v] = some y) : ∃ ds, SlDd W v ds ∧ ∀ x ∈ y.2, x.block < W.heap.size := by
  rcases open_slice Try.underlying22 h with ⟨hc, hx⟩ | ⟨a, len, cap, m, k, D, Pl, hc, _, hl, hm, hmm, hx, he⟩
  · simp at hc
    refine ⟨[], Or.inl ⟨hc, rfl⟩, ?_⟩
    rw [hx]
    simp
  · simp only [List.cons.injEq, and_true] at hc
    subst hc
    have spn := hs a len cap rfl
    obtain ⟨bk, off, spot⟩ := a
    simp only at spn
    subst spn
    rw [if_pos rfl] at hmm
    subst hmm
    rw [sc_deed] at he
    have each : ∀ i, i < m → ∃ d : Dd, (∀ t v, d.cell[t]? = some v → W.cell? ⟨bk, off + i * 9 + t, none⟩ = some v) ∧ d.ok ∧ Pl i = [] := by
      intro i hi
      obtain ⟨cs', h1, h2⟩ := he i hi
      obtain ⟨_, hlen, hcell⟩ := World.cells?_some h1
      obtain ⟨d, rfl, hp, ht⟩ := tr_deed hlen h2
      refine ⟨d, fun t v hv => ?_, ht, hp⟩
      have ht : t < 9 := by have := (List.getElem?_eq_some_iff.1 hv).1; rwa [hlen] at this
      have e0 := hcell t (by omega)
      rw [Go.Deep.add_add, Go.WideShapes.add_plain, hv] at e0
      rw [Nat.add_assoc]
      exact e0
    obtain ⟨q, hq⟩ := pick_d each
    refine ⟨(List.range len).map q, Or.inr ⟨bk, off, m, by simp, by simp; unfold maxLen at hm; omega, fun d hd => ?_, fun j d hj => ?_⟩, ?_⟩
    · obtain ⟨i, hi, rfl⟩ := List.mem_map.1 hd
      exact (hq i (by have := List.mem_range.1 hi; omega)).2.1
    · simp only [List.getElem?_map] at hj
      by_cases hjl : j < len
      · rw [List.getElem?_range hjl] at hj
        simp at hj
        subst hj
        exact (hq j (by omega)).1
      · rw [List.getElem?_eq_none (by simpa using hjl)] at hj
        simp at hj
    · rw [hx]
      intro x hx'
      simp only [List.mem_append] at hx'
      rcases hx' with hx' | hx'
      · obtain ⟨i, hi, rfl⟩ := MemPlace.mem_row.1 hx'
        rw [sc_deed] at hi
        have hm0 : 0 < m := by omega
        have := World.block_lt_of_cell? W _ ((hq 0 hm0).1 0 _ rfl)
        exact this
      · obtain ⟨i, hi, hx'⟩ := List.mem_flatMap.1 hx'
        rw [(hq i (List.mem_range.1 hi)).2.2] at hx'
        simp at hx'
set_option maxRecDepth 100000 in
theorem open_slds {base : Nat} {v : Value} {d : DataW H} {p : List MemPlace} (hv : Value.okWide Try.prog W .any base 22 v) (h : DataW.Trod enc Try.prog W 0 (fun _ => true) true 22 v d p) : ∃ ds, SlDd W v ds ∧ ∀ x ∈ p, x.block < W.heap.size := by
  have key : ∃ p l c, v = .slice p l c := by
    cases v <;> first | exact ⟨_, _, _, rfl⟩ | (exfalso; simp [Value.okWide, Cell.okWide, Cell.ok, Try.underlying22] at hv)
  obtain ⟨q, l, c, rfl⟩ := key
  obtain ⟨fuel, h⟩ := h
  obtain ⟨ds, h1, h2⟩ := tr_deeds (v := .slice q l c) (fun a l' c' e => by
    cases e
    simp [Value.okWide, Cell.okWide, Cell.ok, World.has, Try.underlying22] at hv
    exact hv.2.2.2.1) h
  exact ⟨ds, h1, h2⟩
end
end Go.Proofs.Ytpcbammncaeimaa


