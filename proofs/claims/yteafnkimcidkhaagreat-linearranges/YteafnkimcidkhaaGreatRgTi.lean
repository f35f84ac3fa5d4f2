/- span's told on a line: of what an iterator hands out, from the least to the greatest, clipped, and the trap. -/
import Derived.Test.YteafnkimcidkhaaGreatSpJi
import Derived.Test.YteafnkimcidkhaaGreatSpP
namespace Go.Proofs.YteafnkimcidkhaaGreat
open Go.RowKit Go.Shelf
set_option linter.unusedVariables false
set_option linter.unusedSimpArgs false
attribute [local go_sem] Oper.semAt_some
/-- Between two rounds: what has come so far. -/
structure TIi (A : Ways) (L : Ln) (T : Int) (p : Nat) (W0 : World) (pre : List Int) (V : World) : Prop where
  c0 : V.cell? ⟨p, 0, none⟩ = some (.bool (hullP A pre).1)
  c1 : V.cell? ⟨p, 1, none⟩ = some (.int .i64 (hullP A pre).2.1)
  c2 : V.cell? ⟨p, 2, none⟩ = some (.int .i64 (hullP A pre).2.2)
  ct : V.cell? ⟨p + 1, 0, none⟩ = some (.int .i64 (trapP A L T pre))
  fp : ∀ j, V.frozen? ⟨p, j, none⟩ = false
  ft : V.frozen? ⟨p + 1, 0, none⟩ = false
  but : But (fun k => k = p ∨ k = p + 1) W0 V
theorem TIi.stable {A : Ways} {L : Ln} {T : Int} {p : Nat} {W0 : World} {n : Nat} (hp : p + 1 < n) (hn : W0.heap.size ≤ n) : Stable n (TIi A L T p W0) := fun pre V V' h hb =>
  ⟨(hb.cell (p := ⟨p, 0, none⟩) (by simp; omega)).trans h.c0, (hb.cell (p := ⟨p, 1, none⟩) (by simp; omega)).trans h.c1, (hb.cell (p := ⟨p, 2, none⟩) (by simp; omega)).trans h.c2, (hb.cell (p := ⟨p + 1, 0, none⟩) (by simp; omega)).trans h.ct,
    fun j => (hb.frozen (p := ⟨p, j, none⟩) (by simp; omega)).trans (h.fp j), (hb.frozen (p := ⟨p + 1, 0, none⟩) (by simp; omega)).trans h.ft, stable_but (β := Unit) hn () V V' h.but hb⟩
theorem TIi.next {A : Ways} {L : Ln} {T : Int} {p : Nat} {W0 V : World} {pre : List Int} {u0 u1 u2 : Value} {t : Int} {je : Bool} {jl jh : Int} (h0 : V.cell? ⟨p, 0, none⟩ = some u0) (h1 : V.cell? ⟨p, 1, none⟩ = some u1) (h2 : V.cell? ⟨p, 2, none⟩ = some u2)
    (ht : V.cell? ⟨p + 1, 0, none⟩ = some (.int .i64 t)) (fp : ∀ j, V.frozen? ⟨p, j, none⟩ = false) (ft : V.frozen? ⟨p + 1, 0, none⟩ = false) (hb : But (fun k => k = p ∨ k = p + 1) W0 V) (e1 : hullP A pre = (je, jl, jh)) (e2 : trapP A L T pre = t) :
    TIi A L T p W0 pre (((V.setCell ⟨p, 0, none⟩ (.bool je)).setCell ⟨p, 1, none⟩ (.int .i64 jl)).setCell ⟨p, 2, none⟩ (.int .i64 jh)) := by
  refine ⟨?_, ?_, ?_, ?_, ?_, ?_, ((hb.set (.inl rfl) _).set (.inl rfl) _).set (.inl rfl) _⟩
  · rw [e1]; simp [go_sem, h0, h1, h2]
  · rw [e1]; simp [go_sem, h0, h1, h2]
  · rw [e1]; simp [go_sem, h0, h1, h2]
  · rw [e2]; exact sp_keep3 ht (by omega) _ _ _
  · intro j; simp [go_sem, fp]
  · simp [go_sem, ft]
end Go.Proofs.YteafnkimcidkhaaGreat

