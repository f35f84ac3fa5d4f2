/- span's small calls on a line: smaller, greater, meet, join. -/
import Derived.Test.YteafnkimcidkhaaGreatSpL
import Derived.Test.YteafnkimcidkhaaGreatRgEf
namespace Go.Proofs.YteafnkimcidkhaaGreat
open Go.RowKit
set_option linter.unusedVariables false
set_option linter.unusedSimpArgs false
/-- The line as a value. -/
def lvf (L : Ln) : Array Value := #[.int .u64 L.least, .int .u64 L.most, .int .i64 L.past, .func (.func L.ko) #[] L.co, .func (.func L.kp) #[] L.cp, .func (.func L.k1) #[] L.c1, .func (.func L.kv) #[] L.cv, .func (.func L.kn) #[] L.cn, .func (.func L.ku) #[] L.cu, .func (.func L.kt) #[] L.ct, .func (.func L.kz) #[] L.cz]
/-- Its functions do so, in every world that has grown out of w0 and is as it was below B. -/
structure Actsf (L : Ln) (A : Ways) (B : Nat) (w0 : World) : Prop where
  hB : B ≤ w0.heap.size
  ord : ∀ x y V, A.dom x → A.dom y → Below B w0 V → Calls Tryz.prog L.ko (#[.int .u64 x, .int .u64 y] ++ L.co) V fun e V' => e = .returned (.int .i64 (A.ord x y)) ∧ Below V.heap.size V V'
  pl : ∀ x V, A.dom x → Below B w0 V → Calls Tryz.prog L.kp (#[.int .u64 x] ++ L.cp) V fun e V' => e = .returned (.int .u64 (A.pl x)) ∧ Below V.heap.size V V'
  one : ∀ x V, A.dom x → Below B w0 V → Calls Tryz.prog L.k1 (#[.int .u64 x] ++ L.c1) V fun e V' => e = .returned (.bool (A.one x)) ∧ Below V.heap.size V V'
  prv : ∀ x V, A.dom x → A.one x = true → Below B w0 V → Calls Tryz.prog L.kv (#[.int .u64 x] ++ L.cv) V fun e V' => e = .returned (.int .u64 (A.prv x)) ∧ Below V.heap.size V V'
  nxt : ∀ x V, A.dom x → A.one x = true → Below B w0 V → Calls Tryz.prog L.kn (#[.int .u64 x] ++ L.cn) V fun e V' => e = .returned (.int .u64 (A.nxt x)) ∧ Below V.heap.size V V'
  eo : ∀ args w, (callFunc L.ko args).run Tryz.prog w = .ok (.enter L.ko args) w
  ep : ∀ args w, (callFunc L.kp args).run Tryz.prog w = .ok (.enter L.kp args) w
  e1 : ∀ args w, (callFunc L.k1 args).run Tryz.prog w = .ok (.enter L.k1 args) w
  ev : ∀ args w, (callFunc L.kv args).run Tryz.prog w = .ok (.enter L.kv args) w
  en : ∀ args w, (callFunc L.kn args).run Tryz.prog w = .ok (.enter L.kn args) w
set_option maxRecDepth 100000 in
set_option maxHeartbeats 1600000 in
theorem greater_f {L : Ln} {A : Ways} {B : Nat} {w0 : World} (H : Actsf L A B w0) (x y : Int) (dx : A.dom x) (dy : A.dom y) (w : World) (ok : Below B w0 w) :
    Calls Tryz.prog 205 #[.agg (lvf L), .int .u64 x, .int .u64 y] w fun e w' => e = .returned (.int .u64 (if 0 < A.ord y x then y else x)) ∧ Below w.heap.size w w' := by
  have ho := H.ord y x (w.alloc (.cells (lvf L) 134)) dy dx (ok_new H.hB ok _)
  have eo := H.eo
  unfold lvf at *
  by_cases c : 0 < A.ord y x
  all_goals
    generalize A.ord y x = c0 at *
    simp only [c, if_true, if_false]
    go_enter Tryz.func205, Tryz.ntmps205
    go_wp2_with (go_at_fn L.ko; refine ho.mono ?_; rintro e w1 ⟨rfl, b1⟩)
    go_ret
    exact ⟨rfl, sp_call (sp_new (Below.refl _ _) _) b1⟩
set_option maxRecDepth 100000 in
set_option maxHeartbeats 1600000 in
theorem smaller_f {L : Ln} {A : Ways} {B : Nat} {w0 : World} (H : Actsf L A B w0) (x y : Int) (dx : A.dom x) (dy : A.dom y) (w : World) (ok : Below B w0 w) :
    Calls Tryz.prog 206 #[.agg (lvf L), .int .u64 x, .int .u64 y] w fun e w' => e = .returned (.int .u64 (if A.ord y x < 0 then y else x)) ∧ Below w.heap.size w w' := by
  have ho := H.ord y x (w.alloc (.cells (lvf L) 134)) dy dx (ok_new H.hB ok _)
  have eo := H.eo
  unfold lvf at *
  by_cases c : A.ord y x < 0
  all_goals
    generalize A.ord y x = c0 at *
    simp only [c, if_true, if_false]
    go_enter Tryz.func206, Tryz.ntmps206
    go_wp2_with (go_at_fn L.ko; refine ho.mono ?_; rintro e w1 ⟨rfl, b1⟩)
    go_ret
    exact ⟨rfl, sp_call (sp_new (Below.refl _ _) _) b1⟩
end Go.Proofs.YteafnkimcidkhaaGreat
