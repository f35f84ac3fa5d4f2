/- Texts of the proof, put together. -/
import Derived.Test.YthjoigkckgdcaaaGreatUG1
import Derived.Deep.DeepCutAuto
import Derived.Test.YthjoigkckgdcaaaGreatUSpOni
namespace Go.Proofs.YthjoigkckgdcaaaGreat
open Go.RowKit
set_option linter.unusedVariables false
set_option linter.unusedSimpArgs false
set_option maxRecDepth 100000 in
set_option maxHeartbeats 6400000 in
theorem twoN_i {L : Ln} {A : Ways} {B : Nat} {w0 : World} (H : Actsi L A B w0) (et : ∀ args w, (callFunc L.kt args).run Tryz.prog w = .ok (.enter L.kt args) w) (op : Int) (okp : Int → Int → Prop) (g : Int → Int → Int) (h2 : By2i L A B w0 op okp g)
    (e1 e2 : Bool) (he : (e1 || e2) = true) (a b c d : Int) (w : World) (ok : Below B w0 w) :
    Calls Tryz.prog 128 #[.agg (lvi L), .int .i64 op, .agg #[.bool e1, .int .i64 a, .int .i64 b], .agg #[.bool e2, .int .i64 c, .int .i64 d]] w fun e w' => e = .returned (.tuple #[.agg #[.bool true, .int .i64 0, .int .i64 0], .int .i64 0]) ∧ Below w.heap.size w w' := by
  have hB := H.hB
  have hn := none_i
  have hq := h2
  unfold By2i at hq
  clear h2 H
  unfold lvi
  go_enter Tryz.func128, Tryz.ntmps128
  go_wp2_with fail
  obtain ⟨W, hW⟩ : ∃ W, ((((w.alloc (.cells #[.int .i64 L.least, .int .i64 L.most, .int .i64 L.past, .func (.func L.ko) #[] L.co, .func (.func L.kp) #[] L.cp, .func (.func L.k1) #[] L.c1, .func (.func L.kv) #[] L.cv, .func (.func L.kn) #[] L.cn, .func (.func L.ku) #[] L.cu, .func (.func L.kt) #[] L.ct, .func (.func L.kz) #[] L.cz] 136)).alloc (.cells #[.bool e1, .int .i64 a, .int .i64 b] 139)).alloc (.cells #[.bool e2, .int .i64 c, .int .i64 d] 139)).alloc (.cells #[.bool false, .int .i64 0, .int .i64 0] 139)) = W := ⟨_, rfl⟩
  have l0 : W.cell? ⟨w.heap.size, 0, none⟩ = some (.int .i64 L.least) := by rw [← hW]; simp [go_sem]
  have l1 : W.cell? ⟨w.heap.size, 1, none⟩ = some (.int .i64 L.most) := by rw [← hW]; simp [go_sem]
  have l2 : W.cell? ⟨w.heap.size, 2, none⟩ = some (.int .i64 L.past) := by rw [← hW]; simp [go_sem]
  have l3 : W.cell? ⟨w.heap.size, 3, none⟩ = some (.func (.func L.ko) #[] L.co) := by rw [← hW]; simp [go_sem]
  have l4 : W.cell? ⟨w.heap.size, 4, none⟩ = some (.func (.func L.kp) #[] L.cp) := by rw [← hW]; simp [go_sem]
  have l5 : W.cell? ⟨w.heap.size, 5, none⟩ = some (.func (.func L.k1) #[] L.c1) := by rw [← hW]; simp [go_sem]
  have l6 : W.cell? ⟨w.heap.size, 6, none⟩ = some (.func (.func L.kv) #[] L.cv) := by rw [← hW]; simp [go_sem]
  have l7 : W.cell? ⟨w.heap.size, 7, none⟩ = some (.func (.func L.kn) #[] L.cn) := by rw [← hW]; simp [go_sem]
  have l8 : W.cell? ⟨w.heap.size, 8, none⟩ = some (.func (.func L.ku) #[] L.cu) := by rw [← hW]; simp [go_sem]
  have l9 : W.cell? ⟨w.heap.size, 9, none⟩ = some (.func (.func L.kt) #[] L.ct) := by rw [← hW]; simp [go_sem]
  have l10 : W.cell? ⟨w.heap.size, 10, none⟩ = some (.func (.func L.kz) #[] L.cz) := by rw [← hW]; simp [go_sem]
  have a0 : W.cell? ⟨w.heap.size + 1, 0, none⟩ = some (.bool e1) := by rw [← hW]; simp [go_sem]
  have a1 : W.cell? ⟨w.heap.size + 1, 1, none⟩ = some (.int .i64 a) := by rw [← hW]; simp [go_sem]
  have a2 : W.cell? ⟨w.heap.size + 1, 2, none⟩ = some (.int .i64 b) := by rw [← hW]; simp [go_sem]
  have b0 : W.cell? ⟨w.heap.size + 1 + 1, 0, none⟩ = some (.bool e2) := by rw [← hW]; simp [go_sem]
  have b1 : W.cell? ⟨w.heap.size + 1 + 1, 1, none⟩ = some (.int .i64 c) := by rw [← hW]; simp [go_sem]
  have b2 : W.cell? ⟨w.heap.size + 1 + 1, 2, none⟩ = some (.int .i64 d) := by rw [← hW]; simp [go_sem]
  have r0 : W.cell? ⟨w.heap.size + 1 + 1 + 1, 0, none⟩ = some (.bool false) := by rw [← hW]; simp [go_sem]
  have r1 : W.cell? ⟨w.heap.size + 1 + 1 + 1, 1, none⟩ = some (.int .i64 0) := by rw [← hW]; simp [go_sem]
  have r2 : W.cell? ⟨w.heap.size + 1 + 1 + 1, 2, none⟩ = some (.int .i64 0) := by rw [← hW]; simp [go_sem]
  have okW : Below B w0 W := by rw [← hW]; exact (ok_new hB (ok_new hB (ok_new hB (ok_new hB ok _) _) _) _)
  have bW : Below w.heap.size w W := by rw [← hW]; exact (sp_new (sp_new (sp_new (sp_new (Below.refl _ _) _) _) _) _)
  have zW : W.heap.size = w.heap.size + 4 := by rw [← hW]; simp
  have fz : ∀ j, W.frozen? ⟨w.heap.size + 1 + 1 + 1, j, none⟩ = false := by intro j; rw [← hW]; simp [go_sem]
  rw [hW]
  clear hW
  replace zW := Nat.le_of_eq zW.symm
  with_reducible refine (hq _ okW).mono ?_
  rintro e v1 ⟨g, kb, caps, rfl, eby, hby⟩
  replace fz : ∀ j, v1.frozen? ⟨w.heap.size + 1 + 1 + 1, j, none⟩ = false := fun j => (g.frozen (p := ⟨w.heap.size + 1 + 1 + 1, j, none⟩) (by simp; omega)).trans (fz j)
  have z1 := g.size
  replace bW := sp_call bW g
  replace a0 := sO g a0; replace a1 := sO g a1; replace a2 := sO g a2; replace b0 := sO g b0; replace b1 := sO g b1; replace b2 := sO g b2; replace r0 := sO g r0; replace r1 := sO g r1; replace r2 := sO g r2
  clear g hq eby hby
  cases e1
  · cases e2
    · simp at he
    · clear he
      go_wp2_with (first
        | (go_at_call 201; refine (hn _).mono ?_; rintro e v2 ⟨rfl, g⟩; replace fz : ∀ j, v2.frozen? ⟨w.heap.size + 1 + 1 + 1, j, none⟩ = false := fun j => (g.frozen (p := ⟨w.heap.size + 1 + 1 + 1, j, none⟩) (by simp; omega)).trans (fz j); replace bW := sp_call bW g; replace r0 := sO g r0; replace r1 := sO g r1; replace r2 := sO g r2; clear g)
        | fail)
      exact bodyPost_ret (v := .tuple #[.agg #[.bool true, .int .i64 0, .int .i64 0], .int .i64 0]) (by simp [results, Tryz.results128, go_sem, r0, r1, r2]) rfl ⟨rfl, sp_set3 bW (by omega) _ _ _⟩
  · clear he
    go_wp2_with (first
      | (go_at_call 201; refine (hn _).mono ?_; rintro e v2 ⟨rfl, g⟩; replace fz : ∀ j, v2.frozen? ⟨w.heap.size + 1 + 1 + 1, j, none⟩ = false := fun j => (g.frozen (p := ⟨w.heap.size + 1 + 1 + 1, j, none⟩) (by simp; omega)).trans (fz j); replace bW := sp_call bW g; replace r0 := sO g r0; replace r1 := sO g r1; replace r2 := sO g r2; clear g)
      | fail)
    exact bodyPost_ret (v := .tuple #[.agg #[.bool true, .int .i64 0, .int .i64 0], .int .i64 0]) (by simp [results, Tryz.results128, go_sem, r0, r1, r2]) rfl ⟨rfl, sp_set3 bW (by omega) _ _ _⟩
end Go.Proofs.YthjoigkckgdcaaaGreat

namespace Go.Proofs.YthjoigkckgdcaaaGreat
open Go.RowKit
set_option linter.unusedVariables false
set_option linter.unusedSimpArgs false
theorem tonil_i (w : World) : (binOp BinOp.eql 201 .nilFunc .nilFunc).run Tryz.prog w = .ok (.bool true) w := by kernel_rfl
set_option maxRecDepth 100000 in
set_option maxHeartbeats 6400000 in
theorem twoO_i {L : Ln} {A : Ways} {B : Nat} {w0 : World} (H : Actsi L A B w0) (et : ∀ args w, (callFunc L.kt args).run Tryz.prog w = .ok (.enter L.kt args) w) (op : Int) (h2 : ∀ V, Below B w0 V → Calls Tryz.prog L.kt (#[.int .i64 op] ++ L.ct) V fun e V' => e = .returned .nilFunc ∧ Below V.heap.size V V')
    (e1 e2 : Bool) (a b c d : Int) (w : World) (ok : Below B w0 w) :
    Calls Tryz.prog 128 #[.agg (lvi L), .int .i64 op, .agg #[.bool e1, .int .i64 a, .int .i64 b], .agg #[.bool e2, .int .i64 c, .int .i64 d]] w fun e w' => e = .returned (.tuple #[.agg #[.bool true, .int .i64 0, .int .i64 0], .int .i64 0]) ∧ Below w.heap.size w w' := by
  have hB := H.hB
  have hn := none_i
  have hnil := tonil_i
  clear H
  unfold lvi
  go_enter Tryz.func128, Tryz.ntmps128
  go_wp2_with fail
  obtain ⟨W, hW⟩ : ∃ W, ((((w.alloc (.cells #[.int .i64 L.least, .int .i64 L.most, .int .i64 L.past, .func (.func L.ko) #[] L.co, .func (.func L.kp) #[] L.cp, .func (.func L.k1) #[] L.c1, .func (.func L.kv) #[] L.cv, .func (.func L.kn) #[] L.cn, .func (.func L.ku) #[] L.cu, .func (.func L.kt) #[] L.ct, .func (.func L.kz) #[] L.cz] 136)).alloc (.cells #[.bool e1, .int .i64 a, .int .i64 b] 139)).alloc (.cells #[.bool e2, .int .i64 c, .int .i64 d] 139)).alloc (.cells #[.bool false, .int .i64 0, .int .i64 0] 139)) = W := ⟨_, rfl⟩
  have l0 : W.cell? ⟨w.heap.size, 0, none⟩ = some (.int .i64 L.least) := by rw [← hW]; simp [go_sem]
  have l1 : W.cell? ⟨w.heap.size, 1, none⟩ = some (.int .i64 L.most) := by rw [← hW]; simp [go_sem]
  have l2 : W.cell? ⟨w.heap.size, 2, none⟩ = some (.int .i64 L.past) := by rw [← hW]; simp [go_sem]
  have l3 : W.cell? ⟨w.heap.size, 3, none⟩ = some (.func (.func L.ko) #[] L.co) := by rw [← hW]; simp [go_sem]
  have l4 : W.cell? ⟨w.heap.size, 4, none⟩ = some (.func (.func L.kp) #[] L.cp) := by rw [← hW]; simp [go_sem]
  have l5 : W.cell? ⟨w.heap.size, 5, none⟩ = some (.func (.func L.k1) #[] L.c1) := by rw [← hW]; simp [go_sem]
  have l6 : W.cell? ⟨w.heap.size, 6, none⟩ = some (.func (.func L.kv) #[] L.cv) := by rw [← hW]; simp [go_sem]
  have l7 : W.cell? ⟨w.heap.size, 7, none⟩ = some (.func (.func L.kn) #[] L.cn) := by rw [← hW]; simp [go_sem]
  have l8 : W.cell? ⟨w.heap.size, 8, none⟩ = some (.func (.func L.ku) #[] L.cu) := by rw [← hW]; simp [go_sem]
  have l9 : W.cell? ⟨w.heap.size, 9, none⟩ = some (.func (.func L.kt) #[] L.ct) := by rw [← hW]; simp [go_sem]
  have l10 : W.cell? ⟨w.heap.size, 10, none⟩ = some (.func (.func L.kz) #[] L.cz) := by rw [← hW]; simp [go_sem]
  have a0 : W.cell? ⟨w.heap.size + 1, 0, none⟩ = some (.bool e1) := by rw [← hW]; simp [go_sem]
  have a1 : W.cell? ⟨w.heap.size + 1, 1, none⟩ = some (.int .i64 a) := by rw [← hW]; simp [go_sem]
  have a2 : W.cell? ⟨w.heap.size + 1, 2, none⟩ = some (.int .i64 b) := by rw [← hW]; simp [go_sem]
  have b0 : W.cell? ⟨w.heap.size + 1 + 1, 0, none⟩ = some (.bool e2) := by rw [← hW]; simp [go_sem]
  have b1 : W.cell? ⟨w.heap.size + 1 + 1, 1, none⟩ = some (.int .i64 c) := by rw [← hW]; simp [go_sem]
  have b2 : W.cell? ⟨w.heap.size + 1 + 1, 2, none⟩ = some (.int .i64 d) := by rw [← hW]; simp [go_sem]
  have r0 : W.cell? ⟨w.heap.size + 1 + 1 + 1, 0, none⟩ = some (.bool false) := by rw [← hW]; simp [go_sem]
  have r1 : W.cell? ⟨w.heap.size + 1 + 1 + 1, 1, none⟩ = some (.int .i64 0) := by rw [← hW]; simp [go_sem]
  have r2 : W.cell? ⟨w.heap.size + 1 + 1 + 1, 2, none⟩ = some (.int .i64 0) := by rw [← hW]; simp [go_sem]
  have okW : Below B w0 W := by rw [← hW]; exact (ok_new hB (ok_new hB (ok_new hB (ok_new hB ok _) _) _) _)
  have bW : Below w.heap.size w W := by rw [← hW]; exact (sp_new (sp_new (sp_new (sp_new (Below.refl _ _) _) _) _) _)
  have zW : W.heap.size = w.heap.size + 4 := by rw [← hW]; simp
  have fz : ∀ j, W.frozen? ⟨w.heap.size + 1 + 1 + 1, j, none⟩ = false := by intro j; rw [← hW]; simp [go_sem]
  rw [hW]
  clear hW
  replace zW := Nat.le_of_eq zW.symm
  with_reducible refine (h2 _ okW).mono ?_
  rintro e v1 ⟨rfl, g⟩
  replace fz : ∀ j, v1.frozen? ⟨w.heap.size + 1 + 1 + 1, j, none⟩ = false := fun j => (g.frozen (p := ⟨w.heap.size + 1 + 1 + 1, j, none⟩) (by simp; omega)).trans (fz j)
  have z1 := g.size
  replace bW := sp_call bW g
  replace a0 := sO g a0; replace a1 := sO g a1; replace a2 := sO g a2; replace b0 := sO g b0; replace b1 := sO g b1; replace b2 := sO g b2; replace r0 := sO g r0; replace r1 := sO g r1; replace r2 := sO g r2
  clear g h2
  cases e1
  · cases e2
    · skip
      go_wp2_with (first
        | (go_at_call 201; refine (hn _).mono ?_; rintro e v2 ⟨rfl, g⟩; replace fz : ∀ j, v2.frozen? ⟨w.heap.size + 1 + 1 + 1, j, none⟩ = false := fun j => (g.frozen (p := ⟨w.heap.size + 1 + 1 + 1, j, none⟩) (by simp; omega)).trans (fz j); replace bW := sp_call bW g; replace r0 := sO g r0; replace r1 := sO g r1; replace r2 := sO g r2; clear g)
        | fail)
      exact bodyPost_ret (v := .tuple #[.agg #[.bool true, .int .i64 0, .int .i64 0], .int .i64 0]) (by simp [results, Tryz.results128, go_sem, r0, r1, r2]) rfl ⟨rfl, sp_set3 bW (by omega) _ _ _⟩
    · skip
      go_wp2_with (first
        | (go_at_call 201; refine (hn _).mono ?_; rintro e v2 ⟨rfl, g⟩; replace fz : ∀ j, v2.frozen? ⟨w.heap.size + 1 + 1 + 1, j, none⟩ = false := fun j => (g.frozen (p := ⟨w.heap.size + 1 + 1 + 1, j, none⟩) (by simp; omega)).trans (fz j); replace bW := sp_call bW g; replace r0 := sO g r0; replace r1 := sO g r1; replace r2 := sO g r2; clear g)
        | fail)
      exact bodyPost_ret (v := .tuple #[.agg #[.bool true, .int .i64 0, .int .i64 0], .int .i64 0]) (by simp [results, Tryz.results128, go_sem, r0, r1, r2]) rfl ⟨rfl, sp_set3 bW (by omega) _ _ _⟩
  · skip
    go_wp2_with (first
      | (go_at_call 201; refine (hn _).mono ?_; rintro e v2 ⟨rfl, g⟩; replace fz : ∀ j, v2.frozen? ⟨w.heap.size + 1 + 1 + 1, j, none⟩ = false := fun j => (g.frozen (p := ⟨w.heap.size + 1 + 1 + 1, j, none⟩) (by simp; omega)).trans (fz j); replace bW := sp_call bW g; replace r0 := sO g r0; replace r1 := sO g r1; replace r2 := sO g r2; clear g)
      | fail)
    exact bodyPost_ret (v := .tuple #[.agg #[.bool true, .int .i64 0, .int .i64 0], .int .i64 0]) (by simp [results, Tryz.results128, go_sem, r0, r1, r2]) rfl ⟨rfl, sp_set3 bW (by omega) _ _ _⟩
set_option maxRecDepth 100000 in
set_option maxHeartbeats 6400000 in
theorem oneO_i {L : Ln} {A : Ways} {B : Nat} {w0 : World} (H : Actsi L A B w0) (eu : ∀ args w, (callFunc L.ku args).run Tryz.prog w = .ok (.enter L.ku args) w) (op : Int) (h2 : ∀ V, Below B w0 V → Calls Tryz.prog L.ku (#[.int .i64 op] ++ L.cu) V fun e V' => e = .returned .nilFunc ∧ Below V.heap.size V V')
    (e1 : Bool) (a b : Int) (w : World) (ok : Below B w0 w) :
    Calls Tryz.prog 131 #[.agg (lvi L), .int .i64 op, .agg #[.bool e1, .int .i64 a, .int .i64 b]] w fun e w' => e = .returned (.tuple #[.agg #[.bool true, .int .i64 0, .int .i64 0], .int .i64 0]) ∧ Below w.heap.size w w' := by
  have hB := H.hB
  have hn := none_i
  have hnil := onnil_nil_i
  clear H
  unfold lvi
  go_enter Tryz.func131, Tryz.ntmps131
  go_wp2_with fail
  obtain ⟨W, hW⟩ : ∃ W, (((w.alloc (.cells #[.int .i64 L.least, .int .i64 L.most, .int .i64 L.past, .func (.func L.ko) #[] L.co, .func (.func L.kp) #[] L.cp, .func (.func L.k1) #[] L.c1, .func (.func L.kv) #[] L.cv, .func (.func L.kn) #[] L.cn, .func (.func L.ku) #[] L.cu, .func (.func L.kt) #[] L.ct, .func (.func L.kz) #[] L.cz] 136)).alloc (.cells #[.bool e1, .int .i64 a, .int .i64 b] 139)).alloc (.cells #[.bool false, .int .i64 0, .int .i64 0] 139)) = W := ⟨_, rfl⟩
  have l0 : W.cell? ⟨w.heap.size, 0, none⟩ = some (.int .i64 L.least) := by rw [← hW]; simp [go_sem]
  have l1 : W.cell? ⟨w.heap.size, 1, none⟩ = some (.int .i64 L.most) := by rw [← hW]; simp [go_sem]
  have l2 : W.cell? ⟨w.heap.size, 2, none⟩ = some (.int .i64 L.past) := by rw [← hW]; simp [go_sem]
  have l3 : W.cell? ⟨w.heap.size, 3, none⟩ = some (.func (.func L.ko) #[] L.co) := by rw [← hW]; simp [go_sem]
  have l4 : W.cell? ⟨w.heap.size, 4, none⟩ = some (.func (.func L.kp) #[] L.cp) := by rw [← hW]; simp [go_sem]
  have l5 : W.cell? ⟨w.heap.size, 5, none⟩ = some (.func (.func L.k1) #[] L.c1) := by rw [← hW]; simp [go_sem]
  have l6 : W.cell? ⟨w.heap.size, 6, none⟩ = some (.func (.func L.kv) #[] L.cv) := by rw [← hW]; simp [go_sem]
  have l7 : W.cell? ⟨w.heap.size, 7, none⟩ = some (.func (.func L.kn) #[] L.cn) := by rw [← hW]; simp [go_sem]
  have l8 : W.cell? ⟨w.heap.size, 8, none⟩ = some (.func (.func L.ku) #[] L.cu) := by rw [← hW]; simp [go_sem]
  have l9 : W.cell? ⟨w.heap.size, 9, none⟩ = some (.func (.func L.kt) #[] L.ct) := by rw [← hW]; simp [go_sem]
  have l10 : W.cell? ⟨w.heap.size, 10, none⟩ = some (.func (.func L.kz) #[] L.cz) := by rw [← hW]; simp [go_sem]
  have a0 : W.cell? ⟨w.heap.size + 1, 0, none⟩ = some (.bool e1) := by rw [← hW]; simp [go_sem]
  have a1 : W.cell? ⟨w.heap.size + 1, 1, none⟩ = some (.int .i64 a) := by rw [← hW]; simp [go_sem]
  have a2 : W.cell? ⟨w.heap.size + 1, 2, none⟩ = some (.int .i64 b) := by rw [← hW]; simp [go_sem]
  have r0 : W.cell? ⟨w.heap.size + 1 + 1, 0, none⟩ = some (.bool false) := by rw [← hW]; simp [go_sem]
  have r1 : W.cell? ⟨w.heap.size + 1 + 1, 1, none⟩ = some (.int .i64 0) := by rw [← hW]; simp [go_sem]
  have r2 : W.cell? ⟨w.heap.size + 1 + 1, 2, none⟩ = some (.int .i64 0) := by rw [← hW]; simp [go_sem]
  have okW : Below B w0 W := by rw [← hW]; exact (ok_new hB (ok_new hB (ok_new hB ok _) _) _)
  have bW : Below w.heap.size w W := by rw [← hW]; exact (sp_new (sp_new (sp_new (Below.refl _ _) _) _) _)
  have zW : W.heap.size = w.heap.size + 3 := by rw [← hW]; simp
  have fz : ∀ j, W.frozen? ⟨w.heap.size + 1 + 1, j, none⟩ = false := by intro j; rw [← hW]; simp [go_sem]
  rw [hW]
  clear hW
  replace zW := Nat.le_of_eq zW.symm
  with_reducible refine (h2 _ okW).mono ?_
  rintro e v1 ⟨rfl, g⟩
  replace fz : ∀ j, v1.frozen? ⟨w.heap.size + 1 + 1, j, none⟩ = false := fun j => (g.frozen (p := ⟨w.heap.size + 1 + 1, j, none⟩) (by simp; omega)).trans (fz j)
  have z1 := g.size
  replace bW := sp_call bW g
  replace a0 := sO g a0; replace a1 := sO g a1; replace a2 := sO g a2; replace r0 := sO g r0; replace r1 := sO g r1; replace r2 := sO g r2
  clear g h2
  cases e1
  · skip
    go_wp2_with (first
      | (go_at_call 201; refine (hn _).mono ?_; rintro e v2 ⟨rfl, g⟩; replace fz : ∀ j, v2.frozen? ⟨w.heap.size + 1 + 1, j, none⟩ = false := fun j => (g.frozen (p := ⟨w.heap.size + 1 + 1, j, none⟩) (by simp; omega)).trans (fz j); replace bW := sp_call bW g; replace r0 := sO g r0; replace r1 := sO g r1; replace r2 := sO g r2; clear g)
      | fail)
    exact bodyPost_ret (v := .tuple #[.agg #[.bool true, .int .i64 0, .int .i64 0], .int .i64 0]) (by simp [results, Tryz.results131, go_sem, r0, r1, r2]) rfl ⟨rfl, sp_set3 bW (by omega) _ _ _⟩
  · skip
    go_wp2_with (first
      | (go_at_call 201; refine (hn _).mono ?_; rintro e v2 ⟨rfl, g⟩; replace fz : ∀ j, v2.frozen? ⟨w.heap.size + 1 + 1, j, none⟩ = false := fun j => (g.frozen (p := ⟨w.heap.size + 1 + 1, j, none⟩) (by simp; omega)).trans (fz j); replace bW := sp_call bW g; replace r0 := sO g r0; replace r1 := sO g r1; replace r2 := sO g r2; clear g)
      | fail)
    exact bodyPost_ret (v := .tuple #[.agg #[.bool true, .int .i64 0, .int .i64 0], .int .i64 0]) (by simp [results, Tryz.results131, go_sem, r0, r1, r2]) rfl ⟨rfl, sp_set3 bW (by omega) _ _ _⟩
set_option maxRecDepth 100000 in
set_option maxHeartbeats 6400000 in
theorem oneN_i {L : Ln} {A : Ways} {B : Nat} {w0 : World} (H : Actsi L A B w0) (eu : ∀ args w, (callFunc L.ku args).run Tryz.prog w = .ok (.enter L.ku args) w) (op : Int) (okp : Int → Prop) (g : Int → Int) (h2 : By1i L A B w0 op okp g)
    (a b : Int) (w : World) (ok : Below B w0 w) :
    Calls Tryz.prog 131 #[.agg (lvi L), .int .i64 op, .agg #[.bool true, .int .i64 a, .int .i64 b]] w fun e w' => e = .returned (.tuple #[.agg #[.bool true, .int .i64 0, .int .i64 0], .int .i64 0]) ∧ Below w.heap.size w w' := by
  have hB := H.hB
  have hn := none_i
  have hq := h2
  unfold By1i at hq
  clear H h2
  unfold lvi
  go_enter Tryz.func131, Tryz.ntmps131
  go_wp2_with fail
  obtain ⟨W, hW⟩ : ∃ W, (((w.alloc (.cells #[.int .i64 L.least, .int .i64 L.most, .int .i64 L.past, .func (.func L.ko) #[] L.co, .func (.func L.kp) #[] L.cp, .func (.func L.k1) #[] L.c1, .func (.func L.kv) #[] L.cv, .func (.func L.kn) #[] L.cn, .func (.func L.ku) #[] L.cu, .func (.func L.kt) #[] L.ct, .func (.func L.kz) #[] L.cz] 136)).alloc (.cells #[.bool true, .int .i64 a, .int .i64 b] 139)).alloc (.cells #[.bool false, .int .i64 0, .int .i64 0] 139)) = W := ⟨_, rfl⟩
  have l0 : W.cell? ⟨w.heap.size, 0, none⟩ = some (.int .i64 L.least) := by rw [← hW]; simp [go_sem]
  have l1 : W.cell? ⟨w.heap.size, 1, none⟩ = some (.int .i64 L.most) := by rw [← hW]; simp [go_sem]
  have l2 : W.cell? ⟨w.heap.size, 2, none⟩ = some (.int .i64 L.past) := by rw [← hW]; simp [go_sem]
  have l3 : W.cell? ⟨w.heap.size, 3, none⟩ = some (.func (.func L.ko) #[] L.co) := by rw [← hW]; simp [go_sem]
  have l4 : W.cell? ⟨w.heap.size, 4, none⟩ = some (.func (.func L.kp) #[] L.cp) := by rw [← hW]; simp [go_sem]
  have l5 : W.cell? ⟨w.heap.size, 5, none⟩ = some (.func (.func L.k1) #[] L.c1) := by rw [← hW]; simp [go_sem]
  have l6 : W.cell? ⟨w.heap.size, 6, none⟩ = some (.func (.func L.kv) #[] L.cv) := by rw [← hW]; simp [go_sem]
  have l7 : W.cell? ⟨w.heap.size, 7, none⟩ = some (.func (.func L.kn) #[] L.cn) := by rw [← hW]; simp [go_sem]
  have l8 : W.cell? ⟨w.heap.size, 8, none⟩ = some (.func (.func L.ku) #[] L.cu) := by rw [← hW]; simp [go_sem]
  have l9 : W.cell? ⟨w.heap.size, 9, none⟩ = some (.func (.func L.kt) #[] L.ct) := by rw [← hW]; simp [go_sem]
  have l10 : W.cell? ⟨w.heap.size, 10, none⟩ = some (.func (.func L.kz) #[] L.cz) := by rw [← hW]; simp [go_sem]
  have a0 : W.cell? ⟨w.heap.size + 1, 0, none⟩ = some (.bool true) := by rw [← hW]; simp [go_sem]
  have a1 : W.cell? ⟨w.heap.size + 1, 1, none⟩ = some (.int .i64 a) := by rw [← hW]; simp [go_sem]
  have a2 : W.cell? ⟨w.heap.size + 1, 2, none⟩ = some (.int .i64 b) := by rw [← hW]; simp [go_sem]
  have r0 : W.cell? ⟨w.heap.size + 1 + 1, 0, none⟩ = some (.bool false) := by rw [← hW]; simp [go_sem]
  have r1 : W.cell? ⟨w.heap.size + 1 + 1, 1, none⟩ = some (.int .i64 0) := by rw [← hW]; simp [go_sem]
  have r2 : W.cell? ⟨w.heap.size + 1 + 1, 2, none⟩ = some (.int .i64 0) := by rw [← hW]; simp [go_sem]
  have okW : Below B w0 W := by rw [← hW]; exact (ok_new hB (ok_new hB (ok_new hB ok _) _) _)
  have bW : Below w.heap.size w W := by rw [← hW]; exact (sp_new (sp_new (sp_new (Below.refl _ _) _) _) _)
  have zW : W.heap.size = w.heap.size + 3 := by rw [← hW]; simp
  have fz : ∀ j, W.frozen? ⟨w.heap.size + 1 + 1, j, none⟩ = false := by intro j; rw [← hW]; simp [go_sem]
  rw [hW]
  clear hW
  replace zW := Nat.le_of_eq zW.symm
  with_reducible refine (hq _ okW).mono ?_
  rintro e v1 ⟨g, kb, caps, rfl, eby, hby⟩
  replace fz : ∀ j, v1.frozen? ⟨w.heap.size + 1 + 1, j, none⟩ = false := fun j => (g.frozen (p := ⟨w.heap.size + 1 + 1, j, none⟩) (by simp; omega)).trans (fz j)
  have z1 := g.size
  replace bW := sp_call bW g
  replace a0 := sO g a0; replace a1 := sO g a1; replace a2 := sO g a2; replace r0 := sO g r0; replace r1 := sO g r1; replace r2 := sO g r2
  clear g hq eby hby
  go_wp2_with (first
    | (go_at_call 201; refine (hn _).mono ?_; rintro e v2 ⟨rfl, g⟩; replace fz : ∀ j, v2.frozen? ⟨w.heap.size + 1 + 1, j, none⟩ = false := fun j => (g.frozen (p := ⟨w.heap.size + 1 + 1, j, none⟩) (by simp; omega)).trans (fz j); replace bW := sp_call bW g; replace r0 := sO g r0; replace r1 := sO g r1; replace r2 := sO g r2; clear g)
    | fail)
  exact bodyPost_ret (v := .tuple #[.agg #[.bool true, .int .i64 0, .int .i64 0], .int .i64 0]) (by simp [results, Tryz.results131, go_sem, r0, r1, r2]) rfl ⟨rfl, sp_set3 bW (by omega) _ _ _⟩
end Go.Proofs.YthjoigkckgdcaaaGreat

