/- span's small calls on a line: smaller, greater, meet, join. -/
import Derived.Test.YteafnkimcidkhaaGreatSpL
import Derived.Test.YteafnkimcidkhaaGreatRgEi
namespace Go.Proofs.YteafnkimcidkhaaGreat
open Go.RowKit
set_option linter.unusedVariables false
set_option linter.unusedSimpArgs false
/-- The line as a value. -/
def lvi (L : Ln) : Array Value := #[.int .i64 L.least, .int .i64 L.most, .int .i64 L.past, .func (.func L.ko) #[] L.co, .func (.func L.kp) #[] L.cp, .func (.func L.k1) #[] L.c1, .func (.func L.kv) #[] L.cv, .func (.func L.kn) #[] L.cn, .func (.func L.ku) #[] L.cu, .func (.func L.kt) #[] L.ct, .func (.func L.kz) #[] L.cz]
/-- Its functions do so, in every world that has grown out of w0 and is as it was below B. -/
structure Actsi (L : Ln) (A : Ways) (B : Nat) (w0 : World) : Prop where
  hB : B ≤ w0.heap.size
  ord : ∀ x y V, A.dom x → A.dom y → Below B w0 V → Calls Tryz.prog L.ko (#[.int .i64 x, .int .i64 y] ++ L.co) V fun e V' => e = .returned (.int .i64 (A.ord x y)) ∧ Below V.heap.size V V'
  pl : ∀ x V, A.dom x → Below B w0 V → Calls Tryz.prog L.kp (#[.int .i64 x] ++ L.cp) V fun e V' => e = .returned (.int .i64 (A.pl x)) ∧ Below V.heap.size V V'
  one : ∀ x V, A.dom x → Below B w0 V → Calls Tryz.prog L.k1 (#[.int .i64 x] ++ L.c1) V fun e V' => e = .returned (.bool (A.one x)) ∧ Below V.heap.size V V'
  prv : ∀ x V, A.dom x → A.one x = true → Below B w0 V → Calls Tryz.prog L.kv (#[.int .i64 x] ++ L.cv) V fun e V' => e = .returned (.int .i64 (A.prv x)) ∧ Below V.heap.size V V'
  nxt : ∀ x V, A.dom x → A.one x = true → Below B w0 V → Calls Tryz.prog L.kn (#[.int .i64 x] ++ L.cn) V fun e V' => e = .returned (.int .i64 (A.nxt x)) ∧ Below V.heap.size V V'
  eo : ∀ args w, (callFunc L.ko args).run Tryz.prog w = .ok (.enter L.ko args) w
  ep : ∀ args w, (callFunc L.kp args).run Tryz.prog w = .ok (.enter L.kp args) w
  e1 : ∀ args w, (callFunc L.k1 args).run Tryz.prog w = .ok (.enter L.k1 args) w
  ev : ∀ args w, (callFunc L.kv args).run Tryz.prog w = .ok (.enter L.kv args) w
  en : ∀ args w, (callFunc L.kn args).run Tryz.prog w = .ok (.enter L.kn args) w
end Go.Proofs.YteafnkimcidkhaaGreat

