/- Texts of the proof, put together. -/
import Derived.Test.YthjoigkckgdcaaaGreatYSpJf
import Derived.Test.YthjoigkckgdcaaaGreatYSpP
import Derived.Test.YthjoigkckgdcaaaGreatYRgEf
import Derived.Deep.DrawnRows
import Derived.Test.YthjoigkckgdcaaaGreatYSpQ
namespace Go.Proofs.YthjoigkckgdcaaaGreat
open Go.RowKit Go.Shelf
set_option linter.unusedVariables false
set_option linter.unusedSimpArgs false
attribute [local go_sem] Oper.semAt_some
structure TIf (A : Ways) (L : Ln) (T : Int) (p : Nat) (W0 : World) (pre : List Int) (V : World) : Prop where
  c0 : V.cell? ⟨p, 0, none⟩ = some (.bool (hullP A pre).1)
  c1 : V.cell? ⟨p, 1, none⟩ = some (.int .u64 (hullP A pre).2.1)
  c2 : V.cell? ⟨p, 2, none⟩ = some (.int .u64 (hullP A pre).2.2)
  ct : V.cell? ⟨p + 1, 0, none⟩ = some (.int .i64 (trapP A L T pre))
  fp : ∀ j, V.frozen? ⟨p, j, none⟩ = false
  ft : V.frozen? ⟨p + 1, 0, none⟩ = false
  but : But (fun k => k = p ∨ k = p + 1) W0 V
theorem TIf.stable {A : Ways} {L : Ln} {T : Int} {p : Nat} {W0 : World} {n : Nat} (hp : p + 1 < n) (hn : W0.heap.size ≤ n) : Stable n (TIf A L T p W0) := fun pre V V' h hb =>
  ⟨(hb.cell (p := ⟨p, 0, none⟩) (by simp; omega)).trans h.c0, (hb.cell (p := ⟨p, 1, none⟩) (by simp; omega)).trans h.c1, (hb.cell (p := ⟨p, 2, none⟩) (by simp; omega)).trans h.c2, (hb.cell (p := ⟨p + 1, 0, none⟩) (by simp; omega)).trans h.ct,
    fun j => (hb.frozen (p := ⟨p, j, none⟩) (by simp; omega)).trans (h.fp j), (hb.frozen (p := ⟨p + 1, 0, none⟩) (by simp; omega)).trans h.ft, stable_but (β := Unit) hn () V V' h.but hb⟩
theorem TIf.next {A : Ways} {L : Ln} {T : Int} {p : Nat} {W0 V : World} {pre : List Int} {u0 u1 u2 : Value} {t : Int} {je : Bool} {jl jh : Int} (h0 : V.cell? ⟨p, 0, none⟩ = some u0) (h1 : V.cell? ⟨p, 1, none⟩ = some u1) (h2 : V.cell? ⟨p, 2, none⟩ = some u2)
    (ht : V.cell? ⟨p + 1, 0, none⟩ = some (.int .i64 t)) (fp : ∀ j, V.frozen? ⟨p, j, none⟩ = false) (ft : V.frozen? ⟨p + 1, 0, none⟩ = false) (hb : But (fun k => k = p ∨ k = p + 1) W0 V) (e1 : hullP A pre = (je, jl, jh)) (e2 : trapP A L T pre = t) :
    TIf A L T p W0 pre (((V.setCell ⟨p, 0, none⟩ (.bool je)).setCell ⟨p, 1, none⟩ (.int .u64 jl)).setCell ⟨p, 2, none⟩ (.int .u64 jh)) := by
  refine ⟨?_, ?_, ?_, ?_, ?_, ?_, ((hb.set (.inl rfl) _).set (.inl rfl) _).set (.inl rfl) _⟩
  · rw [e1]; simp [go_sem, h0, h1, h2]
  · rw [e1]; simp [go_sem, h0, h1, h2]
  · rw [e1]; simp [go_sem, h0, h1, h2]
  · rw [e2]; exact sp_keep3 ht (by omega) _ _ _
  · intro j; simp [go_sem, fp]
  · simp [go_sem, ft]
end Go.Proofs.YthjoigkckgdcaaaGreat

namespace Go.Proofs.YthjoigkckgdcaaaGreat
open Go.RowKit Go.Shelf
set_option linter.unusedVariables false
set_option linter.unusedSimpArgs false
attribute [local go_sem] Oper.semAt_some
def Box3f (W : World) (b : Nat) (s : Bool × Int × Int) : Prop := W.cell? ⟨b, 0, none⟩ = some (.bool s.1) ∧ W.cell? ⟨b, 1, none⟩ = some (.int .u64 s.2.1) ∧ W.cell? ⟨b, 2, none⟩ = some (.int .u64 s.2.2)
theorem Box3f.but {S : Nat → Prop} {A B : World} {b : Nat} {s : Bool × Int × Int} (h : Box3f A b s) (hb : But S A B) (hs : ¬ S b) : Box3f B b s := ⟨hb.cell hs h.1, hb.cell hs h.2.1, hb.cell hs h.2.2⟩
end Go.Proofs.YthjoigkckgdcaaaGreat

namespace Go.Proofs.YthjoigkckgdcaaaGreat
open Go.RowKit Go.Shelf
set_option linter.unusedVariables false
set_option linter.unusedSimpArgs false
attribute [local go_sem] Oper.semAt_some
end Go.Proofs.YthjoigkckgdcaaaGreat

namespace Go.Proofs.YthjoigkckgdcaaaGreat
open Go.RowKit
set_option linter.unusedVariables false
set_option linter.unusedSimpArgs false
end Go.Proofs.YthjoigkckgdcaaaGreat

