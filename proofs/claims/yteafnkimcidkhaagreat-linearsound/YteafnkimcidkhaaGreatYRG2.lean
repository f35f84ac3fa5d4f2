/- Texts of the proof, put together. -/
import Derived.Test.YteafnkimcidkhaaGreatYRG1
import Derived.Deep.RegionWith
import Derived.Test.YteafnkimcidkhaaGreatRows
import Derived.RangeFuncBound
import Derived.RangeFuncLeaves
import Derived.Shelf.Abstract
import Derived.Shelf.RegionOpen
import Derived.WalkKit
import Derived.OwnWalkIn
import Derived.TacticsInMore
import Derived.LoopNIn
import Derived.LoopIn
namespace Go.Proofs.YteafnkimcidkhaaGreat
open Go.RowKit
set_option linter.unusedVariables false
set_option linter.unusedSimpArgs false
end Go.Proofs.YteafnkimcidkhaaGreat


namespace Go.Proofs.YteafnkimcidkhaaGreat
open Go.RowKit
set_option linter.unusedVariables false
set_option linter.unusedSimpArgs false
end Go.Proofs.YteafnkimcidkhaaGreat


namespace Go.Proofs.YteafnkimcidkhaaGreat
open Go.RowKit Go.Shelf
set_option linter.unusedVariables false
set_option linter.unusedSimpArgs false
attribute [local go_sem] Oper.semAt_some
def sVf (s : Bool × Int × Int) : Value := .agg #[.bool s.1, .int .u64 s.2.1, .int .u64 s.2.2]
def SRowf (W : World) (b : Nat) (ls : List (Bool × Int × Int)) : Prop := ∀ j s, ls[j]? = some s → W.cell? ⟨b, j * 3, none⟩ = some (.bool s.1) ∧ W.cell? ⟨b, j * 3 + 1, none⟩ = some (.int .u64 s.2.1) ∧ W.cell? ⟨b, j * 3 + 2, none⟩ = some (.int .u64 s.2.2)
theorem SRowf.but {S : Nat → Prop} {A B : World} {b : Nat} {ls : List (Bool × Int × Int)} (h : SRowf A b ls) (hb : But S A B) (hs : ¬ S b) : SRowf B b ls := fun j s hj => by
 obtain ⟨h1, h2, h3⟩ := h j s hj
 exact ⟨hb.cell hs h1, hb.cell hs h2, hb.cell hs h3⟩
end Go.Proofs.YteafnkimcidkhaaGreat


namespace Go.Proofs.YteafnkimcidkhaaGreat
open Go.RowKit
set_option linter.unusedVariables false
set_option linter.unusedSimpArgs false
def lvf (L : Ln) : Array Value := #[.int .u64 L.least, .int .u64 L.most, .int .i64 L.past, .func (.func L.ko) #[] L.co, .func (.func L.kp) #[] L.cp, .func (.func L.k1) #[] L.c1, .func (.func L.kv) #[] L.cv, .func (.func L.kn) #[] L.cn, .func (.func L.ku) #[] L.cu, .func (.func L.kt) #[] L.ct, .func (.func L.kz) #[] L.cz]
structure Actsf (L : Ln) (A : Ways) (B : Nat) (w0 : World) : Prop where
 hB : B ≤ w0.heap.size
 ord : ∀ x y V, A.dom x → A.dom y → Below B w0 V → Calls Tryz.prog L.ko (#[.int .u64 x, .int .u64 y] ++ L.co) V fun e V' => e = .returned (.int .i64 (A.ord x y)) ∧ Below V.heap.size V V'
 pl : ∀ x V, A.dom x → Below B w0 V → Calls Tryz.prog L.kp (#[.int .u64 x] ++ L.cp) V fun e V' => e = .returned (.int .u64 (A.pl x)) ∧ Below V.heap.size V V'
 one : ∀ x V, A.dom x → Below B w0 V → Calls Tryz.prog L.k1 (#[.int .u64 x] ++ L.c1) V fun e V' => e = .returned (.bool (A.one x)) ∧ Below V.heap.size V V'
 prv : ∀ x V, A.dom x → A.one x = true → Below B w0 V → Calls Tryz.prog L.kv (#[.int .u64 x] ++ L.cv) V fun e V' => e = .returned (.int .u64 (A.prv x)) ∧ Below V.heap.size V V'
 nxt : ∀ x V, A.dom x → A.one x = true → Below B w0 V → Calls Tryz.prog L.kn (#[.int .u64 x] ++ L.cn) V fun e V' => e = .returned (.int .u64 (A.nxt x)) ∧ Below V.heap.size V V'
 eo : ∀ args w, (callFunc L.ko args).run Tryz.prog w = .ok (.enter L.ko args) w
 ep : ∀ args w, (callFunc L.kp args).run Tryz.prog w = .ok (.enter L.kp args) w
 e1 : ∀ args w, (callFunc L.k1 args).run Tryz.prog w = .ok (.enter L.k1 args) w
 ev : ∀ args w, (callFunc L.kv args).run Tryz.prog w = .ok (.enter L.kv args) w
 en : ∀ args w, (callFunc L.kn args).run Tryz.prog w = .ok (.enter L.kn args) w
end Go.Proofs.YteafnkimcidkhaaGreat


namespace Go.Proofs.YteafnkimcidkhaaGreat
open Go.RowKit
set_option linter.unusedVariables false
set_option linter.unusedSimpArgs false
set_option maxRecDepth 100000 in
set_option maxHeartbeats 800000 in
theorem none_f (w : World) : Calls Tryz.prog 150 #[] w fun e w' => e = .returned (.agg #[.bool true, .int .u64 0, .int .u64 0]) ∧ Below w.heap.size w w' := by
 go_enter Tryz.func150, Tryz.ntmps150
 go_wp2_with fail
 refine bodyPost_ret (v := .agg #[.bool true, .int .u64 0, .int .u64 0]) (by simp [results, Tryz.results150, go_sem]) rfl ?_
 exact ⟨rfl, sp_new (Below.refl _ _) _⟩
end Go.Proofs.YteafnkimcidkhaaGreat


namespace Go.Proofs.YteafnkimcidkhaaGreat
def pastP (A : Ways) (L : Ln) (x : Int) : Bool := decide (A.ord (A.pl x) L.least < 0) || decide (0 < A.ord (A.pl x) L.most)
def hullP (A : Ways) (xs : List Int) : Bool × Int × Int := xs.foldl (fun acc x => joinP A acc (false, A.pl x, A.pl x)) (true, 0, 0)
def trapP (A : Ways) (L : Ln) (t : Int) (xs : List Int) : Int := xs.foldl (fun acc x => if pastP A L x then t else acc) 0
end Go.Proofs.YteafnkimcidkhaaGreat


namespace Go.Proofs.YteafnkimcidkhaaGreat
def rightP (A : Ways) (p : Bool × Int × Int) : Bool := if p.1 then (p.2.1 == 0 && p.2.2 == 0) else A.one p.2.1 && (A.one p.2.2 && decide (A.ord p.2.1 p.2.2 ≤ 0))
def ofP (A : Ways) (lo hi : Int) : Bool × Int × Int := if rightP A (false, A.pl lo, A.pl hi) then (false, A.pl lo, A.pl hi) else (true, 0, 0)
end Go.Proofs.YteafnkimcidkhaaGreat



