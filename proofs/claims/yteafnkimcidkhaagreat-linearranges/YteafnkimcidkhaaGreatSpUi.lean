/- span.quotients on a line. -/
import Derived.Test.YteafnkimcidkhaaGreatSpTi
import Derived.Test.YteafnkimcidkhaaGreatSpWi
import Derived.Test.YteafnkimcidkhaaGreatSpHi
import Derived.Deep.DeepCutAuto
namespace Go.Proofs.YteafnkimcidkhaaGreat
open Go.RowKit
set_option linter.unusedVariables false
set_option linter.unusedSimpArgs false
theorem below_ovni {W w2 : World} {o : Obj} (g : Below (W.alloc o).heap.size (W.alloc o) w2) : Below W.heap.size W w2 :=
  ⟨g.os, g.tape, g.output, Nat.le_trans (Nat.le_trans (Nat.le_succ _) (by simp)) g.size, fun k hk => (g.block k (by simp; omega)).trans (Below.heap_alloc W o k hk)⟩
theorem lt_ovni {W w2 : World} {o : Obj} (g : Below (W.alloc o).heap.size (W.alloc o) w2) : W.heap.size < w2.heap.size := Nat.lt_of_lt_of_le (show W.heap.size < (W.alloc o).heap.size by simp) g.size
theorem carry1i {X v : World} {b : Nat} {o : Obj} (g : Below X.heap.size X v) (q : X.heap[b]? = some o) : v.heap[b]? = some o := (g.block b (Array.getElem?_eq_some_iff.1 q).1).trans q
theorem carry2i {X v : World} {b : Nat} {o o' : Obj} (g : Below (X.alloc o').heap.size (X.alloc o') v) (q : X.heap[b]? = some o) : v.heap[b]? = some o := carry1i g ((Below.heap_alloc X o' b (Array.getElem?_eq_some_iff.1 q).1).trans q)
theorem carry3i {X v : World} {b : Nat} {o o' : Obj} (g : Below (X.alloc o').drew.heap.size (X.alloc o').drew v) (q : X.heap[b]? = some o) : v.heap[b]? = some o := carry2i (X := X) (o' := o') ⟨g.os, g.tape, g.output, g.size, g.block⟩ q
theorem neweri {X v : World} {o o' : Obj} (g : Below ((X.alloc o').alloc o).heap.size ((X.alloc o').alloc o) v) : v.heap[X.heap.size + 1]? = some o := carry1i g (by have := World.alloc_heap_new (X.alloc o') o; rwa [World.size_alloc] at this)
theorem elderi {X v : World} {o o' : Obj} (g : Below ((X.alloc o).alloc o').heap.size ((X.alloc o).alloc o') v) : v.heap[X.heap.size]? = some o := carry2i g (World.alloc_heap_new X o)
theorem blti {v : World} {b : Nat} {o : Obj} (q : v.heap[b]? = some o) : b < v.heap.size := (Array.getElem?_eq_some_iff.1 q).1
theorem zcellsi {v : World} {b : Nat} {t : TypeId} (q : v.heap[b]? = some (.cells #[.bool false, .int .i64 0, .int .i64 0] t (0, 0))) : v.cell? ⟨b, 0, none⟩ = some (.bool false) ∧ v.cell? ⟨b, 1, none⟩ = some (.int .i64 0) ∧ v.cell? ⟨b, 2, none⟩ = some (.int .i64 0) ∧ ∀ j, v.frozen? ⟨b, j, none⟩ = false := by
  refine ⟨by simp [World.cell?, q], by simp [World.cell?, q], by simp [World.cell?, q], fun j => by simp [World.frozen?, q]⟩
theorem srow2_xi {X v5 : World} {b p : Nat} {e e' : Bool} {a0 b0 a' b' : Int} (g : Below X.heap.size X v5) (f2 : v5.cell? ⟨p + 1 + 1, 0, none⟩ = some (.slice (some ⟨b, 0, none⟩) 2 2)) (h : X.cell? ⟨b, 0, none⟩ = some (.bool e) ∧ X.cell? ⟨b, 1, none⟩ = some (.int .i64 a0) ∧ X.cell? ⟨b, 2, none⟩ = some (.int .i64 b0) ∧ X.cell? ⟨b, 3, none⟩ = some (.bool e') ∧ X.cell? ⟨b, 4, none⟩ = some (.int .i64 a') ∧ X.cell? ⟨b, 5, none⟩ = some (.int .i64 b')) :
    SRowi v5 b [(e, a0, b0), (e', a', b')] ∧ b < v5.heap.size := by
  obtain ⟨s0, s1, s2, s3, s4, s5⟩ := h
  refine ⟨fun j s hj => ?_, Nat.lt_of_lt_of_le (World.block_lt_of_cell? X ⟨b, 0, none⟩ s0) g.size⟩
  rcases j with _ | _ | n
  · simp at hj; subst hj
    exact ⟨sp_cell_on g s0, sp_cell_on g s1, sp_cell_on g s2⟩
  · simp at hj; subst hj
    exact ⟨sp_cell_on g s3, sp_cell_on g s4, sp_cell_on g s5⟩
  · simp at hj
theorem srow2_oni {W w2 : World} {e e' : Bool} {a b a' b' : Int} {t : TypeId} (g : Below (W.alloc (.cells #[.bool e, .int .i64 a, .int .i64 b, .bool e', .int .i64 a', .int .i64 b'] t)).heap.size (W.alloc (.cells #[.bool e, .int .i64 a, .int .i64 b, .bool e', .int .i64 a', .int .i64 b'] t)) w2) : SRowi w2 W.heap.size [(e, a, b), (e', a', b')] := fun j s hj => by
  rcases j with _ | _ | n
  · simp at hj; subst hj
    exact ⟨sp_cell_on g (show (W.alloc _).cell? _ = some _ by simp [go_sem]), sp_cell_on g (show (W.alloc _).cell? _ = some _ by simp [go_sem]), sp_cell_on g (show (W.alloc _).cell? _ = some _ by simp [go_sem])⟩
  · simp at hj; subst hj
    exact ⟨sp_cell_on g (show (W.alloc _).cell? _ = some _ by simp [go_sem]), sp_cell_on g (show (W.alloc _).cell? _ = some _ by simp [go_sem]), sp_cell_on g (show (W.alloc _).cell? _ = some _ by simp [go_sem])⟩
  · simp at hj
end Go.Proofs.YteafnkimcidkhaaGreat

