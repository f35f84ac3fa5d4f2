/- A deed that comes in. -/
import Derived.Test.YtpcbammncaeimaaSpAid
namespace Go.Proofs.Ytpcbammncaeimaa
open Go.ChangeShapes Go.WideShapes Go.ChangeAt Go.RowKit Go.Joins Go.Deep
set_option linter.unusedVariables false
set_option linter.unusedSimpArgs false
theorem trod_struct7 {H : Type} {enc : TypeId × Value → H} {P : Program} {w : World} {base : Nat} {spare : Nat → Bool} {held : Bool} {t : TypeId} {f0 f1 f2 f3 f4 f5 f6 : Field} {fuel : Nat} {cs : List Value} {x : DataW H × List MemPlace} (ht : P.underlying t = some (.struct #[f0, f1, f2, f3, f4, f5, f6])) (h : DataW.trod enc P w base spare held fuel t cs = some x) :
    ∃ y0 y1 y2 y3 y4 y5 y6 n, x.2 = y0.2 ++ (y1.2 ++ (y2.2 ++ (y3.2 ++ (y4.2 ++ (y5.2 ++ y6.2))))) ∧ DataW.trod enc P w base spare held n f0.type ((cs.drop f0.offset).take (P.cellsOf f0.type)) = some y0 ∧ DataW.trod enc P w base spare held n f1.type ((cs.drop f1.offset).take (P.cellsOf f1.type)) = some y1 ∧ DataW.trod enc P w base spare held n f2.type ((cs.drop f2.offset).take (P.cellsOf f2.type)) = some y2 ∧ DataW.trod enc P w base spare held n f3.type ((cs.drop f3.offset).take (P.cellsOf f3.type)) = some y3 ∧ DataW.trod enc P w base spare held n f4.type ((cs.drop f4.offset).take (P.cellsOf f4.type)) = some y4 ∧ DataW.trod enc P w base spare held n f5.type ((cs.drop f5.offset).take (P.cellsOf f5.type)) = some y5 ∧ DataW.trod enc P w base spare held n f6.type ((cs.drop f6.offset).take (P.cellsOf f6.type)) = some y6 := by
  obtain ⟨xs, n, _, rfl, hl, hlen, hf⟩ := DataW.trod_struct ht h
  match xs, hlen with
  | [y0, y1, y2, y3, y4, y5, y6], _ => exact ⟨y0, y1, y2, y3, y4, y5, y6, n, by simp, by simpa using hf 0 f0 rfl, by simpa using hf 1 f1 rfl, by simpa using hf 2 f2 rfl, by simpa using hf 3 f3 rfl, by simpa using hf 4 f4 rfl, by simpa using hf 5 f5 rfl, by simpa using hf 6 f6 rfl⟩
set_option maxRecDepth 100000 in
theorem sc_deed : Try.prog.cellsOf 41 = 9 := by kernel_rfl
set_option maxRecDepth 100000 in
theorem sc_int : Try.prog.cellsOf 3 = 1 := by kernel_rfl
theorem arr9 {α : Type} {cs : Array α} (h : cs.size = 9) : ∃ c0 c1 c2 c3 c4 c5 c6 c7 c8, cs = #[c0, c1, c2, c3, c4, c5, c6, c7, c8] := by
  obtain ⟨l⟩ := cs
  match l, h with
  | [c0, c1, c2, c3, c4, c5, c6, c7, c8], _ => exact ⟨c0, c1, c2, c3, c4, c5, c6, c7, c8, rfl⟩
set_option maxRecDepth 100000 in
theorem open_deed {H : Type} {enc : TypeId × Value → H} {W : World} {base : Nat} {v : Value} {d : DataW H} {p : List MemPlace} (hv : Value.okWide Try.prog W .any base 41 v) (h : DataW.Trod enc Try.prog W 0 (fun _ => true) true 41 v d p) :
    ∃ (kd i k : Int) (ni nk : Bool) (c : Int) (e : Bool) (lo hh : Int), v = .agg #[.int .i64 kd, .int .i64 i, .int .i64 k, .bool ni, .bool nk, .int .i64 c, .bool e, .int .i64 lo, .int .i64 hh] ∧ ∀ x ∈ p, x.block < W.heap.size := by
  obtain ⟨cs, rfl, hsz⟩ := okWide_struct Try.underlying41 hv
  obtain ⟨c0, c1, c2, c3, c4, c5, c6, c7, c8, rfl⟩ := arr9 (hsz.trans sc_deed)
  obtain ⟨fuel, hf⟩ := h
  obtain ⟨y0, y1, y2, y3, y4, y5, y6, n, hp, h0, h1, h2, h3, h4, h5, h6⟩ := trod_struct7 Try.underlying41 hf
  simp only [Value.cells, sc_int, sc4, sc2, sc39] at h0 h1 h2 h3 h4 h5 h6
  obtain ⟨kd, e0, rfl, _⟩ := DataW.trod_int Try.underlying3 h0
  obtain ⟨i, e1, rfl, _⟩ := DataW.trod_int Try.underlying3 h1
  obtain ⟨k, e2, rfl, _⟩ := DataW.trod_int Try.underlying3 h2
  obtain ⟨ni, rfl, rfl⟩ := sp_bool h3
  obtain ⟨nk, rfl, rfl⟩ := sp_bool h4
  obtain ⟨c, e5, rfl, _⟩ := DataW.trod_int Try.underlying2 h5
  obtain ⟨z0, z1, z2, m, rfl, _, g0, g1, g2⟩ := trod_struct3 Try.underlying39 h6
  simp only [Value.cells, sc4, sc2] at g0 g1 g2
  obtain ⟨e, rfl, rfl⟩ := sp_bool g0
  obtain ⟨lo, e7, rfl, _⟩ := DataW.trod_int Try.underlying2 g1
  obtain ⟨hh, e8, rfl, _⟩ := DataW.trod_int Try.underlying2 g2
  simp at e0 e1 e2 e5 e7 e8
  subst e0 e1 e2 e5 e7 e8
  refine ⟨kd, i, k, ni, nk, c, e, lo, hh, rfl, fun x hx => ?_⟩
  simp at hp
  rw [hp] at hx
  simp at hx
end Go.Proofs.Ytpcbammncaeimaa

