/- span.floats: the line of floats is laid. -/
import Derived.Test.YteafnkimcidkhaaGreatYRSpF
import Derived.Test.YteafnkimcidkhaaGreatYRMB3
import Derived.Deep.DeepCutAuto
namespace Go.Proofs.YteafnkimcidkhaaGreat
open Go.RowKit
set_option linter.unusedVariables false
set_option linter.unusedSimpArgs false
def LineAt (W : World) (q : Nat) (L : Ln) : Prop := ∀ j v, (lvf L)[j]? = some v → W.cell? ⟨q, j, none⟩ = some v
theorem lcells {v : World} {b : Nat} {t : TypeId} {x0 x1 x2 x3 x4 x5 x6 x7 x8 x9 x10 : Value} (q : v.heap[b]? = some (.cells #[x0, x1, x2, x3, x4, x5, x6, x7, x8, x9, x10] t (0, 0))) : v.cell? ⟨b, 0, none⟩ = some x0 ∧ v.cell? ⟨b, 1, none⟩ = some x1 ∧ v.cell? ⟨b, 2, none⟩ = some x2 ∧ v.cell? ⟨b, 3, none⟩ = some x3 ∧ v.cell? ⟨b, 4, none⟩ = some x4 ∧ v.cell? ⟨b, 5, none⟩ = some x5 ∧ v.cell? ⟨b, 6, none⟩ = some x6 ∧ v.cell? ⟨b, 7, none⟩ = some x7 ∧ v.cell? ⟨b, 8, none⟩ = some x8 ∧ v.cell? ⟨b, 9, none⟩ = some x9 ∧ v.cell? ⟨b, 10, none⟩ = some x10 ∧ ∀ j, v.frozen? ⟨b, j, none⟩ = false := by
 refine ⟨by simp [World.cell?, q], by simp [World.cell?, q], by simp [World.cell?, q], by simp [World.cell?, q], by simp [World.cell?, q], by simp [World.cell?, q], by simp [World.cell?, q], by simp [World.cell?, q], by simp [World.cell?, q], by simp [World.cell?, q], by simp [World.cell?, q], fun j => by simp [World.frozen?, q]⟩
theorem carryF {X v : World} {b : Nat} {o : Obj} (g : Below X.heap.size X v) (q : X.heap[b]? = some o) : v.heap[b]? = some o := (g.block b (Array.getElem?_eq_some_iff.1 q).1).trans q
theorem at_set {W : World} {b : Nat} {t : TypeId} {z : Nat × Nat} {c : Array Value} (q : W.heap[b]? = some (.cells c t z)) (j : Nat) (v : Value) : (W.setCell ⟨b, j, none⟩ v).heap[b]? = some (.cells (c.setIfInBounds j v) t z) := by
 simp [World.setCell, Array.getElem?_modify, q]
theorem at_set11 {W : World} {b : Nat} {t : TypeId} {z : Nat × Nat} {y0 y1 y2 y3 y4 y5 y6 y7 y8 y9 y10 : Value} (q : W.heap[b]? = some (.cells #[y0, y1, y2, y3, y4, y5, y6, y7, y8, y9, y10] t z)) (x0 x1 x2 x3 x4 x5 x6 x7 x8 x9 x10 : Value) : (((((((((((W.setCell ⟨b, 0, none⟩ x0).setCell ⟨b, 1, none⟩ x1).setCell ⟨b, 2, none⟩ x2).setCell ⟨b, 3, none⟩ x3).setCell ⟨b, 4, none⟩ x4).setCell ⟨b, 5, none⟩ x5).setCell ⟨b, 6, none⟩ x6).setCell ⟨b, 7, none⟩ x7).setCell ⟨b, 8, none⟩ x8).setCell ⟨b, 9, none⟩ x9).setCell ⟨b, 10, none⟩ x10).heap[b]? = some (.cells #[x0, x1, x2, x3, x4, x5, x6, x7, x8, x9, x10] t z) := by
 have h := (at_set (at_set (at_set (at_set (at_set (at_set (at_set (at_set (at_set (at_set (at_set q 0 x0) 1 x1) 2 x2) 3 x3) 4 x4) 5 x5) 6 x6) 7 x7) 8 x8) 9 x9) 10 x10)
 simpa using h
theorem sp_set11 {w W : World} (h : Below w.heap.size w W) {b : Nat} (hb : w.heap.size ≤ b) (x0 x1 x2 x3 x4 x5 x6 x7 x8 x9 x10 : Value) : Below w.heap.size w (((((((((((W.setCell ⟨b, 0, none⟩ x0).setCell ⟨b, 1, none⟩ x1).setCell ⟨b, 2, none⟩ x2).setCell ⟨b, 3, none⟩ x3).setCell ⟨b, 4, none⟩ x4).setCell ⟨b, 5, none⟩ x5).setCell ⟨b, 6, none⟩ x6).setCell ⟨b, 7, none⟩ x7).setCell ⟨b, 8, none⟩ x8).setCell ⟨b, 9, none⟩ x9).setCell ⟨b, 10, none⟩ x10) :=
 (((((((((((h.setCell (p := ⟨b, 0, none⟩) hb x0).setCell (p := ⟨b, 1, none⟩) hb x1).setCell (p := ⟨b, 2, none⟩) hb x2).setCell (p := ⟨b, 3, none⟩) hb x3).setCell (p := ⟨b, 4, none⟩) hb x4).setCell (p := ⟨b, 5, none⟩) hb x5).setCell (p := ⟨b, 6, none⟩) hb x6).setCell (p := ⟨b, 7, none⟩) hb x7).setCell (p := ⟨b, 8, none⟩) hb x8).setCell (p := ⟨b, 9, none⟩) hb x9).setCell (p := ⟨b, 10, none⟩) hb x10)
theorem at_far {W : World} {b c : Nat} (j : Nat) (v : Value) (h : b ≠ c) : (W.setCell ⟨b, j, none⟩ v).heap[c]? = W.heap[c]? := by
 simp [World.setCell, Array.getElem?_modify, h]
theorem cell_at {Y : World} {b : Nat} {t : TypeId} {z : Nat × Nat} {c : Array Value} (q : Y.heap[b]? = some (.cells c t z)) (j : Nat) : Y.cell? ⟨b, j, none⟩ = c[j]? := by
 simp [World.cell?, q]
theorem cell_far {Y W : World} {c j : Nat} (h : Y.heap[c]? = W.heap[c]?) : Y.cell? ⟨c, j, none⟩ = W.cell? ⟨c, j, none⟩ := by
 simp [World.cell?, h]
theorem sp_set1f {w W : World} (h : Below w.heap.size w W) {b j : Nat} (hb : w.heap.size ≤ b) (x : Value) : Below w.heap.size w (W.setCell ⟨b, j, none⟩ x) := h.setCell (p := ⟨b, j, none⟩) hb x
theorem over11 {Q : World → Prop} {W : World} {b : Nat} {t : TypeId} {z : Nat × Nat} {y0 y1 y2 y3 y4 y5 y6 y7 y8 y9 y10 x0 x1 x2 x3 x4 x5 x6 x7 x8 x9 x10 : Value} (q : W.heap[b]? = some (.cells #[y0, y1, y2, y3, y4, y5, y6, y7, y8, y9, y10] t z))
  (h : ∀ Y : World, Y.heap[b]? = some (.cells #[x0, x1, x2, x3, x4, x5, x6, x7, x8, x9, x10] t z) → (∀ c, c ≠ b → Y.heap[c]? = W.heap[c]?) → Y.heap.size = W.heap.size → (∀ w : World, w.heap.size ≤ b → ∀ (_ : Unit) , Below w.heap.size w W → Below w.heap.size w Y) → Q Y) : Q (((((((((((W.setCell ⟨b, 0, none⟩ x0).setCell ⟨b, 1, none⟩ x1).setCell ⟨b, 2, none⟩ x2).setCell ⟨b, 3, none⟩ x3).setCell ⟨b, 4, none⟩ x4).setCell ⟨b, 5, none⟩ x5).setCell ⟨b, 6, none⟩ x6).setCell ⟨b, 7, none⟩ x7).setCell ⟨b, 8, none⟩ x8).setCell ⟨b, 9, none⟩ x9).setCell ⟨b, 10, none⟩ x10) := by
 refine h _ (at_set11 q x0 x1 x2 x3 x4 x5 x6 x7 x8 x9 x10) (fun c hc => ?_) (by simp [World.setCell]) (fun w hb _ hw => sp_set11 hw hb x0 x1 x2 x3 x4 x5 x6 x7 x8 x9 x10)
 rw [at_far _ _ (Ne.symm hc), at_far _ _ (Ne.symm hc), at_far _ _ (Ne.symm hc), at_far _ _ (Ne.symm hc), at_far _ _ (Ne.symm hc), at_far _ _ (Ne.symm hc), at_far _ _ (Ne.symm hc), at_far _ _ (Ne.symm hc), at_far _ _ (Ne.symm hc), at_far _ _ (Ne.symm hc), at_far _ _ (Ne.symm hc)]
set_option maxRecDepth 100000 in
set_option maxHeartbeats 6400000 in
theorem floats_any (f : Int) (w : World) : Calls Tryz.prog 100 #[.int .i64 f] w fun e w' => ∃ q : Nat, e = .returned (.agg (lvf (LnF (f == 1) w.heap.size q))) ∧ w'.cell? ⟨w.heap.size, 0, none⟩ = some (.int .i64 f) ∧ LineAt w' q (LnF (f == 1) w.heap.size q) ∧ w.heap.size ≤ q ∧ w.heap.size < w'.heap.size ∧ q < w'.heap.size ∧ Below w.heap.size w w' := by
 have hm1 := most_fl f
 have hm2 := most_fl f
 have hw : Word (fI (f == 1) - 1) := by cases (f == 1) <;> exact ⟨by decide, by decide⟩
 have hn := neg_fl f (fI (f == 1) - 1) hw
 clear hw
 unfold LineAt lvf LnF
 dsimp only
 generalize negF (f == 1) (fI (f == 1) - 1) = least at *
 generalize fI (f == 1) - 1 = most at *
 go_enter Tryz.func100, Tryz.ntmps100
 go_upto_region 1 with fail
 obtain ⟨W, hW⟩ : ∃ W, ((w.alloc (.cells #[.int .i64 f] 57)).alloc (.cells #[.int .u64 0, .int .u64 0, .int .i64 0, .nilFunc, .nilFunc, .nilFunc, .nilFunc, .nilFunc, .nilFunc, .nilFunc, .nilFunc] 134)) = W := ⟨_, rfl⟩
 have a0 : W.cell? ⟨w.heap.size, 0, none⟩ = some (.int .i64 f) := by rw [← hW]; simp [go_sem]
 have r0 : W.cell? ⟨w.heap.size + 1, 0, none⟩ = some (.int .u64 0) := by rw [← hW]; simp [go_sem]
 have r1 : W.cell? ⟨w.heap.size + 1, 1, none⟩ = some (.int .u64 0) := by rw [← hW]; simp [go_sem]
 have r2 : W.cell? ⟨w.heap.size + 1, 2, none⟩ = some (.int .i64 0) := by rw [← hW]; simp [go_sem]
 have r3 : W.cell? ⟨w.heap.size + 1, 3, none⟩ = some (.nilFunc) := by rw [← hW]; simp [go_sem]
 have r4 : W.cell? ⟨w.heap.size + 1, 4, none⟩ = some (.nilFunc) := by rw [← hW]; simp [go_sem]
 have r5 : W.cell? ⟨w.heap.size + 1, 5, none⟩ = some (.nilFunc) := by rw [← hW]; simp [go_sem]
 have r6 : W.cell? ⟨w.heap.size + 1, 6, none⟩ = some (.nilFunc) := by rw [← hW]; simp [go_sem]
 have r7 : W.cell? ⟨w.heap.size + 1, 7, none⟩ = some (.nilFunc) := by rw [← hW]; simp [go_sem]
 have r8 : W.cell? ⟨w.heap.size + 1, 8, none⟩ = some (.nilFunc) := by rw [← hW]; simp [go_sem]
 have r9 : W.cell? ⟨w.heap.size + 1, 9, none⟩ = some (.nilFunc) := by rw [← hW]; simp [go_sem]
 have r10 : W.cell? ⟨w.heap.size + 1, 10, none⟩ = some (.nilFunc) := by rw [← hW]; simp [go_sem]
 have bW : Below w.heap.size w W := by rw [← hW]; exact (sp_new (sp_new (Below.refl _ _) _) _)
 have zW : W.heap.size = w.heap.size + 2 := by rw [← hW]; simp
 have fz : ∀ j, W.frozen? ⟨w.heap.size + 1, j, none⟩ = false := by intro j; rw [← hW]; simp [go_sem]
 have rW : W.heap[w.heap.size + 1]? = some (Obj.cells #[.int .u64 0, .int .u64 0, .int .i64 0, .nilFunc, .nilFunc, .nilFunc, .nilFunc, .nilFunc, .nilFunc, .nilFunc, .nilFunc] 134 (0, 0)) := by rw [← hW]; have t := World.alloc_heap_new (w.alloc (.cells #[.int .i64 f] 57)) (Obj.cells #[.int .u64 0, .int .u64 0, .int .i64 0, .nilFunc, .nilFunc, .nilFunc, .nilFunc, .nilFunc, .nilFunc, .nilFunc, .nilFunc] 134 (0, 0)); rwa [World.size_alloc] at t
 rw [hW]
 clear hW
 have hall : ∀ X, Below W.heap.size W X → X.cell? ⟨w.heap.size, 0, none⟩ = some (.int .i64 f) := fun X cc => sO cc a0
 have cc : Below W.heap.size W W := Below.refl _ _
 replace zW := Nat.le_of_eq zW.symm
 go_cut [3] from 4 to 16 (fun s X => ∃ (X1 : World) (b : Nat), X1 = X ∧ s = .pointer (some ⟨b, 0, none⟩) ∧ W.heap.size ≤ b ∧ X.heap[b]? = some (Obj.cells #[.int .u64 least, .int .u64 most, .int .i64 2, .nilFunc, .func (.func 132) #[] #[.pointer (some ⟨w.heap.size, 0, none⟩)], .func (.func 134) #[] #[.pointer (some ⟨w.heap.size, 0, none⟩)], .func (.func 136) #[] #[.pointer (some ⟨w.heap.size, 0, none⟩)], .func (.func 138) #[] #[.pointer (some ⟨w.heap.size, 0, none⟩)], .func (.func 140) #[] #[.pointer (some ⟨w.heap.size, 0, none⟩)], .func (.func 142) #[] #[.pointer (some ⟨w.heap.size, 0, none⟩)], .nilFunc] 134 (0, 0)) ∧ Below W.heap.size W X)
 case first =>
  refine wp_region_held_drew (S := (fun w' => w'.cell? ⟨w.heap.size, 0, none⟩ = some (.int .i64 f))) (by kernel_rfl) a0 (fun hH => ?_)
  refine wpAnyH_take (i := 0) (oi := _) (v := .int .i64 f) rfl (by kernel_rfl) (by kernel_rfl) (by kernel_rfl) (fun _ _ _ h => h) (Or.inl ⟨by rfl, fun w' hSw => by go_simp⟩) hH ?_
  simp only [Act.put, gA, gB, gC, gD, gE, gG]
  refine wpAnyH_take (i := 1) (oi := _) (v := .int .i64 f) rfl (by kernel_rfl) (by kernel_rfl) (by kernel_rfl) (fun _ _ _ h => h) (Or.inl ⟨by rfl, fun w' hSw => by go_simp⟩) hH ?_
  simp only [Act.put, gA, gB, gC, gD, gE, gG]
  refine wpAnyH_take (i := 4) (oi := _) (v := .int .i64 f) rfl (by kernel_rfl) (by kernel_rfl) (by kernel_rfl) (fun _ _ _ h => h) (Or.inl ⟨by rfl, fun w' hSw => by go_simp⟩) hH ?_
  simp only [Act.put, gA, gB, gC, gD, gE, gG]
  refine wpAnyH_take (i := 6) (oi := _) (v := .func (.func 132) #[] #[.pointer (some ⟨w.heap.size, 0, none⟩)]) rfl (by kernel_rfl) (by kernel_rfl) (by kernel_rfl) (fun _ _ _ h => h) (Or.inl ⟨by rfl, fun w' hSw => by go_simp⟩) hH ?_
  simp only [Act.put, gA, gB, gC, gD, gE, gG]
  refine wpAnyH_take (i := 7) (oi := _) (v := .func (.func 134) #[] #[.pointer (some ⟨w.heap.size, 0, none⟩)]) rfl (by kernel_rfl) (by kernel_rfl) (by kernel_rfl) (fun _ _ _ h => h) (Or.inl ⟨by rfl, fun w' hSw => by go_simp⟩) hH ?_
  simp only [Act.put, gA, gB, gC, gD, gE, gG]
  refine wpAnyH_take (i := 8) (oi := _) (v := .func (.func 136) #[] #[.pointer (some ⟨w.heap.size, 0, none⟩)]) rfl (by kernel_rfl) (by kernel_rfl) (by kernel_rfl) (fun _ _ _ h => h) (Or.inl ⟨by rfl, fun w' hSw => by go_simp⟩) hH ?_
  simp only [Act.put, gA, gB, gC, gD, gE, gG]
  refine wpAnyH_take (i := 9) (oi := _) (v := .func (.func 138) #[] #[.pointer (some ⟨w.heap.size, 0, none⟩)]) rfl (by kernel_rfl) (by kernel_rfl) (by kernel_rfl) (fun _ _ _ h => h) (Or.inl ⟨by rfl, fun w' hSw => by go_simp⟩) hH ?_
  simp only [Act.put, gA, gB, gC, gD, gE, gG]
  refine wpAnyH_take (i := 10) (oi := _) (v := .func (.func 140) #[] #[.pointer (some ⟨w.heap.size, 0, none⟩)]) rfl (by kernel_rfl) (by kernel_rfl) (by kernel_rfl) (fun _ _ _ h => h) (Or.inl ⟨by rfl, fun w' hSw => by go_simp⟩) hH ?_
  simp only [Act.put, gA, gB, gC, gD, gE, gG]
  refine wpAnyH_take (i := 11) (oi := _) (v := .func (.func 142) #[] #[.pointer (some ⟨w.heap.size, 0, none⟩)]) rfl (by kernel_rfl) (by kernel_rfl) (by kernel_rfl) (fun _ _ _ h => h) (Or.inl ⟨by rfl, fun w' hSw => by go_simp⟩) hH ?_
  simp only [Act.put, gA, gB, gC, gD, gE, gG]
  refine wpAnyH_ready (rs := [2, 13]) (by kernel_rfl) (by simp) (AllReadyH.cons (o := _) rfl (fun K hK => ?_) (AllReadyH.cons (o := _) rfl (fun K hK => ?_) AllReadyH.nil))
  ·skip
   go_simp
   refine (hm1 _).mono ?_
   rintro e v1 ⟨rfl, g⟩
   replace cc := sp_call (show Below W.heap.size W _ by first | exact cc | exact cc.drew | exact sp_new cc _ | exact (sp_new cc _).drew | exact sp_new cc.drew _) g
   have zcv1 := cc.size
   go_wp2_with fail
   refine hK.out _ _ (hall _ cc) (fun hH => ?_)
   clear hK K
   try simp only [Act.put, gA, gB, gC, gD, gE, gG]
   refine wpAnyH_ready (rs := [3, 13]) (by kernel_rfl) (by simp) (AllReadyH.cons (o := _) rfl (fun K hK => ?_) (AllReadyH.cons (o := _) rfl (fun K hK => ?_) AllReadyH.nil))
   ·skip
    go_simp
    refine (hn _).mono ?_
    rintro e v2 ⟨rfl, g⟩
    replace cc := sp_call (show Below W.heap.size W _ by first | exact cc | exact cc.drew | exact sp_new cc _ | exact (sp_new cc _).drew | exact sp_new cc.drew _) g
    have zcv2 := cc.size
    go_wp2_with fail
    refine hK.out _ _ (hall _ cc) (fun hH => ?_)
    clear hK K
    try simp only [Act.put, gA, gB, gC, gD, gE, gG]
    refine wpAnyH_ready (rs := [5, 13]) (by kernel_rfl) (by simp) (AllReadyH.cons (o := _) rfl (fun K hK => ?_) (AllReadyH.cons (o := _) rfl (fun K hK => ?_) AllReadyH.nil))
    ·skip
     go_simp
     refine (hm2 _).mono ?_
     rintro e v3 ⟨rfl, g⟩
     replace cc := sp_call (show Below W.heap.size W _ by first | exact cc | exact cc.drew | exact sp_new cc _ | exact (sp_new cc _).drew | exact sp_new cc.drew _) g
     have zcv3 := cc.size
     go_wp2_with fail
     refine hK.out _ _ (hall _ cc) (fun hH => ?_)
     clear hK K
     try simp only [Act.put, gA, gB, gC, gD, gE, gG]
     refine wpAnyH_take (i := 12) (oi := _) (v := .agg #[.int .u64 least, .int .u64 most, .int .i64 2, .nilFunc, .func (.func 132) #[] #[.pointer (some ⟨w.heap.size, 0, none⟩)], .func (.func 134) #[] #[.pointer (some ⟨w.heap.size, 0, none⟩)], .func (.func 136) #[] #[.pointer (some ⟨w.heap.size, 0, none⟩)], .func (.func 138) #[] #[.pointer (some ⟨w.heap.size, 0, none⟩)], .func (.func 140) #[] #[.pointer (some ⟨w.heap.size, 0, none⟩)], .func (.func 142) #[] #[.pointer (some ⟨w.heap.size, 0, none⟩)], .nilFunc]) rfl (by kernel_rfl) (by kernel_rfl) (by kernel_rfl) (fun _ _ _ h => h) (Or.inl ⟨by rfl, fun w' hSw => by go_simp⟩) hH ?_
     simp only [Act.put, gA, gB, gC, gD, gE, gG]
     refine wpAnyH_ready (rs := [13]) (by kernel_rfl) (by simp) (AllReadyH.cons (o := _) rfl (fun K hK => ?_) AllReadyH.nil)
     ·skip
      go_simp
      refine hK.out _ _ (hall _ (by first | exact cc | exact cc.drew | exact sp_new cc _ | exact (sp_new cc _).drew | exact sp_new cc.drew _)) (fun hH => ?_)
      clear hK K
      try simp only [Act.put, gA, gB, gC, gD, gE, gG]
      refine wpAnyH_ready (rs := [14]) (by kernel_rfl) (by simp) (AllReadyH.cons (o := _) rfl (fun K hK => ?_) AllReadyH.nil)
      go_simp
      refine hK.out _ _ (hall _ (by first | with_reducible exact sp_new cc _ | with_reducible exact sp_set11 cc (by omega) _ _ _ _ _ _ _ _ _ _ _)) (fun hH => ?_)
      clear hK K
      try simp only [Act.put, gA, gB, gC, gD, gE, gG]
      refine wpAnyH_done (by kernel_rfl) ?_ _
      go_wp2_with fail
      go_meet
      refine ⟨_, _, rfl, rfl, ?_, ?_, ?_⟩
      ·first | omega | (simp; omega)
      ·first | with_reducible exact World.alloc_heap_new _ _ | with_reducible exact at_set11 qb _ _ _ _ _ _ _ _ _ _ _
      ·first | with_reducible exact sp_new cc _ | with_reducible exact sp_set11 cc (by omega) _ _ _ _ _ _ _ _ _ _ _
    ·skip
     go_simp
     refine hK.out _ _ (hall _ (by first | exact cc | exact cc.drew | exact sp_new cc _ | exact (sp_new cc _).drew | exact sp_new cc.drew _)) (fun hH => ?_)
     clear hK K
     try simp only [Act.put, gA, gB, gC, gD, gE, gG]
     refine wpAnyH_ready (rs := [5]) (by kernel_rfl) (by simp) (AllReadyH.cons (o := _) rfl (fun K hK => ?_) AllReadyH.nil)
     ·skip
      go_simp
      refine (hm2 _).mono ?_
      rintro e v3 ⟨rfl, g⟩
      replace cc := sp_call (show Below W.heap.size W _ by first | exact cc | exact cc.drew | exact sp_new cc _ | exact (sp_new cc _).drew | exact sp_new cc.drew _) g
      have zcv3 := cc.size
      have qb : v3.heap[v2.heap.size]? = some (Obj.cells #[.int .u64 0, .int .u64 0, .int .i64 0, .nilFunc, .nilFunc, .nilFunc, .nilFunc, .nilFunc, .nilFunc, .nilFunc, .nilFunc] 134 (0, 0)) := by first | exact carryF g (by assumption) | exact carryF g (World.alloc_heap_new v2 (Obj.cells #[.int .u64 0, .int .u64 0, .int .i64 0, .nilFunc, .nilFunc, .nilFunc, .nilFunc, .nilFunc, .nilFunc, .nilFunc, .nilFunc] 134 (0, 0))) | exact carryF g (World.alloc_heap_new v2.drew (Obj.cells #[.int .u64 0, .int .u64 0, .int .i64 0, .nilFunc, .nilFunc, .nilFunc, .nilFunc, .nilFunc, .nilFunc, .nilFunc, .nilFunc] 134 (0, 0))) | exact carryF g (show (World.drew (World.alloc v2 (Obj.cells #[.int .u64 0, .int .u64 0, .int .i64 0, .nilFunc, .nilFunc, .nilFunc, .nilFunc, .nilFunc, .nilFunc, .nilFunc, .nilFunc] 134 (0, 0)))).heap[v2.heap.size]? = some (Obj.cells #[.int .u64 0, .int .u64 0, .int .i64 0, .nilFunc, .nilFunc, .nilFunc, .nilFunc, .nilFunc, .nilFunc, .nilFunc, .nilFunc] 134 (0, 0)) from World.alloc_heap_new v2 (Obj.cells #[.int .u64 0, .int .u64 0, .int .i64 0, .nilFunc, .nilFunc, .nilFunc, .nilFunc, .nilFunc, .nilFunc, .nilFunc, .nilFunc] 134 (0, 0)))
      obtain ⟨q0, q1, q2, q3, q4, q5, q6, q7, q8, q9, q10, qf⟩ := lcells qb
      go_wp2_with fail
      refine hK.out _ _ (hall _ cc) (fun hH => ?_)
      clear hK K
      try simp only [Act.put, gA, gB, gC, gD, gE, gG]
      refine wpAnyH_take (i := 12) (oi := _) (v := .agg #[.int .u64 least, .int .u64 most, .int .i64 2, .nilFunc, .func (.func 132) #[] #[.pointer (some ⟨w.heap.size, 0, none⟩)], .func (.func 134) #[] #[.pointer (some ⟨w.heap.size, 0, none⟩)], .func (.func 136) #[] #[.pointer (some ⟨w.heap.size, 0, none⟩)], .func (.func 138) #[] #[.pointer (some ⟨w.heap.size, 0, none⟩)], .func (.func 140) #[] #[.pointer (some ⟨w.heap.size, 0, none⟩)], .func (.func 142) #[] #[.pointer (some ⟨w.heap.size, 0, none⟩)], .nilFunc]) rfl (by kernel_rfl) (by kernel_rfl) (by kernel_rfl) (fun _ _ _ h => h) (Or.inl ⟨by rfl, fun w' hSw => by go_simp⟩) hH ?_
      simp only [Act.put, gA, gB, gC, gD, gE, gG]
      refine wpAnyH_ready (rs := [14]) (by kernel_rfl) (by simp) (AllReadyH.cons (o := _) rfl (fun K hK => ?_) AllReadyH.nil)
      go_simp
      refine hK.out _ _ (hall _ (by first | with_reducible exact sp_new cc _ | with_reducible exact sp_set11 cc (by omega) _ _ _ _ _ _ _ _ _ _ _)) (fun hH => ?_)
      clear hK K
      try simp only [Act.put, gA, gB, gC, gD, gE, gG]
      refine wpAnyH_done (by kernel_rfl) ?_ _
      go_wp2_with fail
      go_meet
      refine ⟨_, _, rfl, rfl, ?_, ?_, ?_⟩
      ·first | omega | (simp; omega)
      ·first | with_reducible exact World.alloc_heap_new _ _ | with_reducible exact at_set11 qb _ _ _ _ _ _ _ _ _ _ _
      ·first | with_reducible exact sp_new cc _ | with_reducible exact sp_set11 cc (by omega) _ _ _ _ _ _ _ _ _ _ _
   ·skip
    go_simp
    refine hK.out _ _ (hall _ (by first | exact cc | exact cc.drew | exact sp_new cc _ | exact (sp_new cc _).drew | exact sp_new cc.drew _)) (fun hH => ?_)
    clear hK K
    try simp only [Act.put, gA, gB, gC, gD, gE, gG]
    refine wpAnyH_ready (rs := [3]) (by kernel_rfl) (by simp) (AllReadyH.cons (o := _) rfl (fun K hK => ?_) AllReadyH.nil)
    ·skip
     go_simp
     refine (hn _).mono ?_
     rintro e v2 ⟨rfl, g⟩
     replace cc := sp_call (show Below W.heap.size W _ by first | exact cc | exact cc.drew | exact sp_new cc _ | exact (sp_new cc _).drew | exact sp_new cc.drew _) g
     have zcv2 := cc.size
     have qb : v2.heap[v1.heap.size]? = some (Obj.cells #[.int .u64 0, .int .u64 0, .int .i64 0, .nilFunc, .nilFunc, .nilFunc, .nilFunc, .nilFunc, .nilFunc, .nilFunc, .nilFunc] 134 (0, 0)) := by first | exact carryF g (by assumption) | exact carryF g (World.alloc_heap_new v1 (Obj.cells #[.int .u64 0, .int .u64 0, .int .i64 0, .nilFunc, .nilFunc, .nilFunc, .nilFunc, .nilFunc, .nilFunc, .nilFunc, .nilFunc] 134 (0, 0))) | exact carryF g (World.alloc_heap_new v1.drew (Obj.cells #[.int .u64 0, .int .u64 0, .int .i64 0, .nilFunc, .nilFunc, .nilFunc, .nilFunc, .nilFunc, .nilFunc, .nilFunc, .nilFunc] 134 (0, 0))) | exact carryF g (show (World.drew (World.alloc v1 (Obj.cells #[.int .u64 0, .int .u64 0, .int .i64 0, .nilFunc, .nilFunc, .nilFunc, .nilFunc, .nilFunc, .nilFunc, .nilFunc, .nilFunc] 134 (0, 0)))).heap[v1.heap.size]? = some (Obj.cells #[.int .u64 0, .int .u64 0, .int .i64 0, .nilFunc, .nilFunc, .nilFunc, .nilFunc, .nilFunc, .nilFunc, .nilFunc, .nilFunc] 134 (0, 0)) from World.alloc_heap_new v1 (Obj.cells #[.int .u64 0, .int .u64 0, .int .i64 0, .nilFunc, .nilFunc, .nilFunc, .nilFunc, .nilFunc, .nilFunc, .nilFunc, .nilFunc] 134 (0, 0)))
     go_wp2_with fail
     refine hK.out _ _ (hall _ cc) (fun hH => ?_)
     clear hK K
     try simp only [Act.put, gA, gB, gC, gD, gE, gG]
     refine wpAnyH_ready (rs := [5]) (by kernel_rfl) (by simp) (AllReadyH.cons (o := _) rfl (fun K hK => ?_) AllReadyH.nil)
     ·skip
      go_simp
      refine (hm2 _).mono ?_
      rintro e v3 ⟨rfl, g⟩
      replace cc := sp_call (show Below W.heap.size W _ by first | exact cc | exact cc.drew | exact sp_new cc _ | exact (sp_new cc _).drew | exact sp_new cc.drew _) g
      have zcv3 := cc.size
      have qb : v3.heap[v1.heap.size]? = some (Obj.cells #[.int .u64 0, .int .u64 0, .int .i64 0, .nilFunc, .nilFunc, .nilFunc, .nilFunc, .nilFunc, .nilFunc, .nilFunc, .nilFunc] 134 (0, 0)) := by first | exact carryF g (by assumption) | exact carryF g (World.alloc_heap_new v1 (Obj.cells #[.int .u64 0, .int .u64 0, .int .i64 0, .nilFunc, .nilFunc, .nilFunc, .nilFunc, .nilFunc, .nilFunc, .nilFunc, .nilFunc] 134 (0, 0))) | exact carryF g (World.alloc_heap_new v1.drew (Obj.cells #[.int .u64 0, .int .u64 0, .int .i64 0, .nilFunc, .nilFunc, .nilFunc, .nilFunc, .nilFunc, .nilFunc, .nilFunc, .nilFunc] 134 (0, 0))) | exact carryF g (show (World.drew (World.alloc v1 (Obj.cells #[.int .u64 0, .int .u64 0, .int .i64 0, .nilFunc, .nilFunc, .nilFunc, .nilFunc, .nilFunc, .nilFunc, .nilFunc, .nilFunc] 134 (0, 0)))).heap[v1.heap.size]? = some (Obj.cells #[.int .u64 0, .int .u64 0, .int .i64 0, .nilFunc, .nilFunc, .nilFunc, .nilFunc, .nilFunc, .nilFunc, .nilFunc, .nilFunc] 134 (0, 0)) from World.alloc_heap_new v1 (Obj.cells #[.int .u64 0, .int .u64 0, .int .i64 0, .nilFunc, .nilFunc, .nilFunc, .nilFunc, .nilFunc, .nilFunc, .nilFunc, .nilFunc] 134 (0, 0)))
      obtain ⟨q0, q1, q2, q3, q4, q5, q6, q7, q8, q9, q10, qf⟩ := lcells qb
      go_wp2_with fail
      refine hK.out _ _ (hall _ cc) (fun hH => ?_)
      clear hK K
      try simp only [Act.put, gA, gB, gC, gD, gE, gG]
      refine wpAnyH_take (i := 12) (oi := _) (v := .agg #[.int .u64 least, .int .u64 most, .int .i64 2, .nilFunc, .func (.func 132) #[] #[.pointer (some ⟨w.heap.size, 0, none⟩)], .func (.func 134) #[] #[.pointer (some ⟨w.heap.size, 0, none⟩)], .func (.func 136) #[] #[.pointer (some ⟨w.heap.size, 0, none⟩)], .func (.func 138) #[] #[.pointer (some ⟨w.heap.size, 0, none⟩)], .func (.func 140) #[] #[.pointer (some ⟨w.heap.size, 0, none⟩)], .func (.func 142) #[] #[.pointer (some ⟨w.heap.size, 0, none⟩)], .nilFunc]) rfl (by kernel_rfl) (by kernel_rfl) (by kernel_rfl) (fun _ _ _ h => h) (Or.inl ⟨by rfl, fun w' hSw => by go_simp⟩) hH ?_
      simp only [Act.put, gA, gB, gC, gD, gE, gG]
      refine wpAnyH_ready (rs := [14]) (by kernel_rfl) (by simp) (AllReadyH.cons (o := _) rfl (fun K hK => ?_) AllReadyH.nil)
      go_simp
      refine hK.out _ _ (hall _ (by first | with_reducible exact sp_new cc _ | with_reducible exact sp_set11 cc (by omega) _ _ _ _ _ _ _ _ _ _ _)) (fun hH => ?_)
      clear hK K
      try simp only [Act.put, gA, gB, gC, gD, gE, gG]
      refine wpAnyH_done (by kernel_rfl) ?_ _
      go_wp2_with fail
      go_meet
      refine ⟨_, _, rfl, rfl, ?_, ?_, ?_⟩
      ·first | omega | (simp; omega)
      ·first | with_reducible exact World.alloc_heap_new _ _ | with_reducible exact at_set11 qb _ _ _ _ _ _ _ _ _ _ _
      ·first | with_reducible exact sp_new cc _ | with_reducible exact sp_set11 cc (by omega) _ _ _ _ _ _ _ _ _ _ _
  ·skip
   go_simp
   refine hK.out _ _ (hall _ (by first | exact cc | exact cc.drew | exact sp_new cc _ | exact (sp_new cc _).drew | exact sp_new cc.drew _)) (fun hH => ?_)
   clear hK K
   try simp only [Act.put, gA, gB, gC, gD, gE, gG]
   refine wpAnyH_ready (rs := [2]) (by kernel_rfl) (by simp) (AllReadyH.cons (o := _) rfl (fun K hK => ?_) AllReadyH.nil)
   ·skip
    go_simp
    refine (hm1 _).mono ?_
    rintro e v1 ⟨rfl, g⟩
    replace cc := sp_call (show Below W.heap.size W _ by first | exact cc | exact cc.drew | exact sp_new cc _ | exact (sp_new cc _).drew | exact sp_new cc.drew _) g
    have zcv1 := cc.size
    have qb : v1.heap[W.heap.size]? = some (Obj.cells #[.int .u64 0, .int .u64 0, .int .i64 0, .nilFunc, .nilFunc, .nilFunc, .nilFunc, .nilFunc, .nilFunc, .nilFunc, .nilFunc] 134 (0, 0)) := by first | exact carryF g (by assumption) | exact carryF g (World.alloc_heap_new W (Obj.cells #[.int .u64 0, .int .u64 0, .int .i64 0, .nilFunc, .nilFunc, .nilFunc, .nilFunc, .nilFunc, .nilFunc, .nilFunc, .nilFunc] 134 (0, 0))) | exact carryF g (World.alloc_heap_new W.drew (Obj.cells #[.int .u64 0, .int .u64 0, .int .i64 0, .nilFunc, .nilFunc, .nilFunc, .nilFunc, .nilFunc, .nilFunc, .nilFunc, .nilFunc] 134 (0, 0))) | exact carryF g (show (World.drew (World.alloc W (Obj.cells #[.int .u64 0, .int .u64 0, .int .i64 0, .nilFunc, .nilFunc, .nilFunc, .nilFunc, .nilFunc, .nilFunc, .nilFunc, .nilFunc] 134 (0, 0)))).heap[W.heap.size]? = some (Obj.cells #[.int .u64 0, .int .u64 0, .int .i64 0, .nilFunc, .nilFunc, .nilFunc, .nilFunc, .nilFunc, .nilFunc, .nilFunc, .nilFunc] 134 (0, 0)) from World.alloc_heap_new W (Obj.cells #[.int .u64 0, .int .u64 0, .int .i64 0, .nilFunc, .nilFunc, .nilFunc, .nilFunc, .nilFunc, .nilFunc, .nilFunc, .nilFunc] 134 (0, 0)))
    go_wp2_with fail
    refine hK.out _ _ (hall _ cc) (fun hH => ?_)
    clear hK K
    try simp only [Act.put, gA, gB, gC, gD, gE, gG]
    refine wpAnyH_ready (rs := [3]) (by kernel_rfl) (by simp) (AllReadyH.cons (o := _) rfl (fun K hK => ?_) AllReadyH.nil)
    ·skip
     go_simp
     refine (hn _).mono ?_
     rintro e v2 ⟨rfl, g⟩
     replace cc := sp_call (show Below W.heap.size W _ by first | exact cc | exact cc.drew | exact sp_new cc _ | exact (sp_new cc _).drew | exact sp_new cc.drew _) g
     have zcv2 := cc.size
     have qb : v2.heap[W.heap.size]? = some (Obj.cells #[.int .u64 0, .int .u64 0, .int .i64 0, .nilFunc, .nilFunc, .nilFunc, .nilFunc, .nilFunc, .nilFunc, .nilFunc, .nilFunc] 134 (0, 0)) := by first | exact carryF g (by assumption) | exact carryF g (World.alloc_heap_new W (Obj.cells #[.int .u64 0, .int .u64 0, .int .i64 0, .nilFunc, .nilFunc, .nilFunc, .nilFunc, .nilFunc, .nilFunc, .nilFunc, .nilFunc] 134 (0, 0))) | exact carryF g (World.alloc_heap_new W.drew (Obj.cells #[.int .u64 0, .int .u64 0, .int .i64 0, .nilFunc, .nilFunc, .nilFunc, .nilFunc, .nilFunc, .nilFunc, .nilFunc, .nilFunc] 134 (0, 0))) | exact carryF g (show (World.drew (World.alloc W (Obj.cells #[.int .u64 0, .int .u64 0, .int .i64 0, .nilFunc, .nilFunc, .nilFunc, .nilFunc, .nilFunc, .nilFunc, .nilFunc, .nilFunc] 134 (0, 0)))).heap[W.heap.size]? = some (Obj.cells #[.int .u64 0, .int .u64 0, .int .i64 0, .nilFunc, .nilFunc, .nilFunc, .nilFunc, .nilFunc, .nilFunc, .nilFunc, .nilFunc] 134 (0, 0)) from World.alloc_heap_new W (Obj.cells #[.int .u64 0, .int .u64 0, .int .i64 0, .nilFunc, .nilFunc, .nilFunc, .nilFunc, .nilFunc, .nilFunc, .nilFunc, .nilFunc] 134 (0, 0)))
     go_wp2_with fail
     refine hK.out _ _ (hall _ cc) (fun hH => ?_)
     clear hK K
     try simp only [Act.put, gA, gB, gC, gD, gE, gG]
     refine wpAnyH_ready (rs := [5]) (by kernel_rfl) (by simp) (AllReadyH.cons (o := _) rfl (fun K hK => ?_) AllReadyH.nil)
     ·skip
      go_simp
      refine (hm2 _).mono ?_
      rintro e v3 ⟨rfl, g⟩
      replace cc := sp_call (show Below W.heap.size W _ by first | exact cc | exact cc.drew | exact sp_new cc _ | exact (sp_new cc _).drew | exact sp_new cc.drew _) g
      have zcv3 := cc.size
      have qb : v3.heap[W.heap.size]? = some (Obj.cells #[.int .u64 0, .int .u64 0, .int .i64 0, .nilFunc, .nilFunc, .nilFunc, .nilFunc, .nilFunc, .nilFunc, .nilFunc, .nilFunc] 134 (0, 0)) := by first | exact carryF g (by assumption) | exact carryF g (World.alloc_heap_new W (Obj.cells #[.int .u64 0, .int .u64 0, .int .i64 0, .nilFunc, .nilFunc, .nilFunc, .nilFunc, .nilFunc, .nilFunc, .nilFunc, .nilFunc] 134 (0, 0))) | exact carryF g (World.alloc_heap_new W.drew (Obj.cells #[.int .u64 0, .int .u64 0, .int .i64 0, .nilFunc, .nilFunc, .nilFunc, .nilFunc, .nilFunc, .nilFunc, .nilFunc, .nilFunc] 134 (0, 0))) | exact carryF g (show (World.drew (World.alloc W (Obj.cells #[.int .u64 0, .int .u64 0, .int .i64 0, .nilFunc, .nilFunc, .nilFunc, .nilFunc, .nilFunc, .nilFunc, .nilFunc, .nilFunc] 134 (0, 0)))).heap[W.heap.size]? = some (Obj.cells #[.int .u64 0, .int .u64 0, .int .i64 0, .nilFunc, .nilFunc, .nilFunc, .nilFunc, .nilFunc, .nilFunc, .nilFunc, .nilFunc] 134 (0, 0)) from World.alloc_heap_new W (Obj.cells #[.int .u64 0, .int .u64 0, .int .i64 0, .nilFunc, .nilFunc, .nilFunc, .nilFunc, .nilFunc, .nilFunc, .nilFunc, .nilFunc] 134 (0, 0)))
      obtain ⟨q0, q1, q2, q3, q4, q5, q6, q7, q8, q9, q10, qf⟩ := lcells qb
      go_wp2_with fail
      refine hK.out _ _ (hall _ cc) (fun hH => ?_)
      clear hK K
      try simp only [Act.put, gA, gB, gC, gD, gE, gG]
      refine wpAnyH_take (i := 12) (oi := _) (v := .agg #[.int .u64 least, .int .u64 most, .int .i64 2, .nilFunc, .func (.func 132) #[] #[.pointer (some ⟨w.heap.size, 0, none⟩)], .func (.func 134) #[] #[.pointer (some ⟨w.heap.size, 0, none⟩)], .func (.func 136) #[] #[.pointer (some ⟨w.heap.size, 0, none⟩)], .func (.func 138) #[] #[.pointer (some ⟨w.heap.size, 0, none⟩)], .func (.func 140) #[] #[.pointer (some ⟨w.heap.size, 0, none⟩)], .func (.func 142) #[] #[.pointer (some ⟨w.heap.size, 0, none⟩)], .nilFunc]) rfl (by kernel_rfl) (by kernel_rfl) (by kernel_rfl) (fun _ _ _ h => h) (Or.inl ⟨by rfl, fun w' hSw => by go_simp⟩) hH ?_
      simp only [Act.put, gA, gB, gC, gD, gE, gG]
      refine wpAnyH_ready (rs := [14]) (by kernel_rfl) (by simp) (AllReadyH.cons (o := _) rfl (fun K hK => ?_) AllReadyH.nil)
      go_simp
      refine hK.out _ _ (hall _ (by first | with_reducible exact sp_new cc _ | with_reducible exact sp_set11 cc (by omega) _ _ _ _ _ _ _ _ _ _ _)) (fun hH => ?_)
      clear hK K
      try simp only [Act.put, gA, gB, gC, gD, gE, gG]
      refine wpAnyH_done (by kernel_rfl) ?_ _
      go_wp2_with fail
      go_meet
      refine ⟨_, _, rfl, rfl, ?_, ?_, ?_⟩
      ·first | omega | (simp; omega)
      ·first | with_reducible exact World.alloc_heap_new _ _ | with_reducible exact at_set11 qb _ _ _ _ _ _ _ _ _ _ _
      ·first | with_reducible exact sp_new cc _ | with_reducible exact sp_set11 cc (by omega) _ _ _ _ _ _ _ _ _ _ _
 case rest =>
  obtain ⟨X1, b, rfl, rfl, hb, qX, cX⟩ := hcut
  obtain ⟨c0, c1, c2, c3, c4, c5, c6, c7, c8, c9, c10, fb⟩ := lcells qX
  replace a0 := hall _ cX
  replace r0 := sO cX r0
  replace r1 := sO cX r1
  replace r2 := sO cX r2
  replace r3 := sO cX r3
  replace r4 := sO cX r4
  replace r5 := sO cX r5
  replace r6 := sO cX r6
  replace r7 := sO cX r7
  replace r8 := sO cX r8
  replace r9 := sO cX r9
  replace r10 := sO cX r10
  replace fz := fun j => (cX.frozen (p := ⟨w.heap.size + 1, j, none⟩) (by simp; omega)).trans (fz j)
  replace rW := carryF cX rW
  have zX := cX.size
  have bX := sp_call bW cX
  clear hall cc
  have q2 := at_set (at_set qX 3 (.func (.func 144) #[] #[.pointer (some ⟨w.heap.size, 0, none⟩)])) 10 (.func (.func 146) #[] #[.pointer (some ⟨b, 0, none⟩)])
  have r2 := (at_far (W := X1.setCell ⟨b, 3, none⟩ (.func (.func 144) #[] #[.pointer (some ⟨w.heap.size, 0, none⟩)])) (c := w.heap.size + 1) 10 (.func (.func 146) #[] #[.pointer (some ⟨b, 0, none⟩)]) (show b ≠ w.heap.size + 1 by omega)).trans ((at_far (W := X1) (c := w.heap.size + 1) 3 (.func (.func 144) #[] #[.pointer (some ⟨w.heap.size, 0, none⟩)]) (show b ≠ w.heap.size + 1 by omega)).trans rW)
  have a2 := (at_far (W := X1.setCell ⟨b, 3, none⟩ (.func (.func 144) #[] #[.pointer (some ⟨w.heap.size, 0, none⟩)])) (c := w.heap.size) 10 (.func (.func 146) #[] #[.pointer (some ⟨b, 0, none⟩)]) (show b ≠ w.heap.size by omega)).trans (at_far (W := X1) (c := w.heap.size) 3 (.func (.func 144) #[] #[.pointer (some ⟨w.heap.size, 0, none⟩)]) (show b ≠ w.heap.size by omega))
  have b2 := sp_set1f (j := 10) (sp_set1f (j := 3) bX (show w.heap.size ≤ b by omega) (.func (.func 144) #[] #[.pointer (some ⟨w.heap.size, 0, none⟩)])) (show w.heap.size ≤ b by omega) (.func (.func 146) #[] #[.pointer (some ⟨b, 0, none⟩)])
  have bl := (Array.getElem?_eq_some_iff.1 qX).1
  have z2 : ((X1.setCell ⟨b, 3, none⟩ (.func (.func 144) #[] #[.pointer (some ⟨w.heap.size, 0, none⟩)])).setCell ⟨b, 10, none⟩ (.func (.func 146) #[] #[.pointer (some ⟨b, 0, none⟩)])).heap.size = X1.heap.size := by simp [World.setCell]
  go_wp2
  refine over11 (Q := fun Y => bodyPost Tryz.prog Tryz.f100 _ Exit.ret _ Y) r2 (fun Y hY hfar hz hBel => ?_)
  obtain ⟨y0, y1, y2, y3, y4, y5, y6, y7, y8, y9, y10, yf⟩ := lcells hY
  have hYb := (hfar b (by omega)).trans q2
  have hYa := (hfar w.heap.size (by omega)).trans a2
  refine bodyPost_ret (v := .agg #[.int .u64 least, .int .u64 most, .int .i64 2, .func (.func 144) #[] #[.pointer (some ⟨w.heap.size, 0, none⟩)], .func (.func 132) #[] #[.pointer (some ⟨w.heap.size, 0, none⟩)], .func (.func 134) #[] #[.pointer (some ⟨w.heap.size, 0, none⟩)], .func (.func 136) #[] #[.pointer (some ⟨w.heap.size, 0, none⟩)], .func (.func 138) #[] #[.pointer (some ⟨w.heap.size, 0, none⟩)], .func (.func 140) #[] #[.pointer (some ⟨w.heap.size, 0, none⟩)], .func (.func 142) #[] #[.pointer (some ⟨w.heap.size, 0, none⟩)], .func (.func 146) #[] #[.pointer (some ⟨b, 0, none⟩)]]) (by simp [results, Tryz.results100, go_sem, y0, y1, y2, y3, y4, y5, y6, y7, y8, y9, y10]) rfl ⟨b, rfl, ?_, ?_, by omega, by omega, by omega, hBel _ (by omega) () b2⟩
  ·exact (cell_far hYa).trans a0
  ·intro j v hj
   exact (cell_at hYb j).trans hj
end Go.Proofs.YteafnkimcidkhaaGreat




