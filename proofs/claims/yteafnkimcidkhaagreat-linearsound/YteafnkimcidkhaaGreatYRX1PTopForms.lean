/- Texts of the proof, put together. -/
import Derived.Test.YteafnkimcidkhaaGreatYRXPTopForms
import Derived.Test.YteafnkimcidkhaaGreatYRG1
import Derived.Test.YteafnkimcidkhaaGreatYRG2
import Derived.Test.YteafnkimcidkhaaGreatYRSpWf
import Derived.Test.YteafnkimcidkhaaGreatShelf
import Derived.Test.YteafnkimcidkhaaGreatYRMB1
import Derived.Test.YteafnkimcidkhaaGreatYRMB2
import Derived.Test.YteafnkimcidkhaaGreatYRMB3
import Derived.Test.YteafnkimcidkhaaGreatYRSpF
import Derived.Test.YteafnkimcidkhaaGreatYRSpFl
import Derived.Test.YteafnkimcidkhaaGreatYRLjF
import Derived.Test.YteafnkimcidkhaaGreatYRLjH
import Derived.Test.YteafnkimcidkhaaGreatYRG3
import Derived.Test.YteafnkimcidkhaaGreatYRLiF
import Derived.Test.YteafnkimcidkhaaGreatYRLiG
import Derived.Test.YteafnkimcidkhaaGreatYRLiH
import Derived.Test.YteafnkimcidkhaaGreatYRLiI
import Derived.Test.YteafnkimcidkhaaGreatYRLiJ
import Derived.Test.YteafnkimcidkhaaGreatYRLiK
import Derived.Test.YteafnkimcidkhaaGreatYRLiL
import Derived.Test.YteafnkimcidkhaaGreatYRLiB
import Derived.Test.YteafnkimcidkhaaGreatYRMB4
import Derived.Test.YteafnkimcidkhaaGreatYRMB5
import Derived.Test.YteafnkimcidkhaaGreatYRLiO
import Derived.Test.YteafnkimcidkhaaGreatYRG5
import Derived.Test.YteafnkimcidkhaaGreatYRG4
import Derived.Test.YteafnkimcidkhaaGreatYRG6
import Derived.Test.YteafnkimcidkhaaGreatYRG7
import Derived.Test.YteafnkimcidkhaaGreatYRG8
import Derived.Test.YteafnkimcidkhaaGreatYRG9
import Derived.RangeFuncNested
import Derived.RangeFuncCalls
import Derived.Below
import Derived.WalkKit
import Derived.WalkSpells
import Derived.StillTactics
import Derived.Laws.Pointers
import Derived.Laws.Externs
import Derived.Deep.RegionHeld3
import Derived.RowKit
import Derived.Laws.EntriesVeiled
import Derived.Shelf.Abstract
import Derived.RangeFuncBound
import Derived.RangeFuncLeaves
import Derived.Shelf.RegionOpen
import Derived.OwnWalkIn
import Derived.TacticsInMore
import Derived.LoopNIn
import Derived.LoopIn
import Derived.Laws.Bits64
import Derived.Laws.Bits64b
import Derived.Lib.Mul64
import Derived.Lib.BitFns
import Derived.Shelf.Spec.BitsCarry
import Derived.BigQuiet
import Derived.Deep.QuietTactic
import Derived.Deep.DeepCutAuto
import Derived.ScopeJumps
import Derived.Deep.CutBlock
import Derived.Laws.BitsAllLaws
import Derived.Deep.Draws
import Derived.Deep.DrawnRows
import Derived.Laws.Append
import Derived.Deep.Upon
import Derived.ProofKit
import Derived.OpenShut
import Derived.ChangeOld
import Derived.Lib.SmallJoins
import Derived.Deep.Strs
import Derived.Maps.AppendAt
import Derived.OwnWalk
import Derived.Laws.AppendOwn
import Derived.Deep.RegionWith
namespace Go.Proofs.YteafnkimcidkhaaGreat
open Go.RowKit Go.Shelf
set_option linter.unusedVariables false
set_option linter.unusedSimpArgs false
attribute [local go_sem] Oper.semAt_some
set_option maxRecDepth 100000 in
set_option maxHeartbeats 4000000 in
theorem each21_f (l Ba Bb By b cap kb : Nat) (caps : Array Value) (g : Int → Int → Int) (em : Bool) (lo hi : Int) (ls : List (Bool × Int × Int)) (hlen : ls.length ≤ 1000) (S : Nat → Prop) (W : World) (hBa : ¬ S Ba) (hBb : ¬ S Bb) (hBy : ¬ S By) (hb : ¬ S b) (hS : ∀ k, S k → k < W.heap.size) (J : List Int → World → Prop)
    (hY : ∀ pre (x : Int) W1, pre ++ [x] <+: (pairsL (em, lo, hi) ls).map (fun p => g p.1 p.2) → J pre W1 → ∀ m, YieldAt Fence.wide m Tryz.prog l #[.int .u64 x] W1 fun e W' => e = .returned (.bool true) ∧ J (pre ++ [x]) W' ∧ But S W1 W')
    (hby : ∀ x y V, (x, y) ∈ pairsL (em, lo, hi) ls → But S W V → Calls Tryz.prog kb (#[.int .u64 x, .int .u64 y] ++ caps) V fun e V' => e = .returned (.int .u64 (g x y)) ∧ Below V.heap.size V V')
    (eby : ∀ args w, (callFunc kb args).run Tryz.prog w = .ok (.enter kb args) w)
    (st : Stable W.heap.size J) (ha : Box3f W Ba (em, lo, hi)) (hc : W.cell? ⟨Bb, 0, none⟩ = some (.slice (some ⟨b, 0, none⟩) ls.length cap)) (hf : W.cell? ⟨By, 0, none⟩ = some (.func (.func kb) #[] caps)) (hr : SRowf W b ls) (h0 : J [] W) :
    Calls Tryz.prog 194 #[.func (.yield l) #[] #[], .pointer (some ⟨Ba, 0, none⟩), .pointer (some ⟨Bb, 0, none⟩), .pointer (some ⟨By, 0, none⟩)] W fun e W' => (∃ v, e = .returned v) ∧ J ((pairsL (em, lo, hi) ls).map (fun p => g p.1 p.2)) W' := by
  obtain ⟨a1, a2, a3⟩ := ha
  have lBa : Ba < W.heap.size := World.block_lt_of_cell? W _ a1
  have lBb : Bb < W.heap.size := World.block_lt_of_cell? W _ hc
  have lBy : By < W.heap.size := World.block_lt_of_cell? W _ hf
  have hboth := both_f
  refine (callsIn_wide (n := 3)).1 ?_
  refine callsIn_of_wp_marks Tryz.func194 rfl trivial ?_ rfl
  simp only [Tryz.ntmps194, List.size_toArray, List.length_cons, List.length_nil, Nat.reduceAdd, Nat.reduceSub, Array.replicate_succ, Array.replicate_zero, List.push_toArray, List.append_toArray, List.nil_append, List.cons_append]
  gi_wp2_with (refine ⟨trivial, ?_⟩; gi_at_call 195; refine (callsIn_wide.2 (hboth _ _ _ _ ⟨_, _, _, rfl⟩ _)).mono ?_; rintro e w' ⟨rfl, rfl⟩)
  obtain ⟨W0, hW0⟩ : ∃ W0, ((W.alloc (.cells #[.func (.yield l) #[] #[]] 129)).alloc (.cells #[.bool em, .int .u64 lo, .int .u64 hi] 126)).alloc (.cells #[.slice (some ⟨b, 0, none⟩) ls.length cap] 211) = W0 := ⟨_, rfl⟩
  have z0 : W0.heap.size = W.heap.size + 3 := by rw [← hW0]; simp
  have q0 : W0.cell? ⟨W.heap.size, 0, none⟩ = some (.func (.yield l) #[] #[]) := by rw [← hW0]; simp [go_sem]
  have q1 : Box3f W0 (W.heap.size + 1) (em, lo, hi) := by unfold Box3f; rw [← hW0]; simp [go_sem]
  have q2 : W0.cell? ⟨W.heap.size + 1 + 1, 0, none⟩ = some (.slice (some ⟨b, 0, none⟩) ls.length cap) := by rw [← hW0]; simp [go_sem]
  have Bw : Below W.heap.size W W0 := by rw [← hW0]; exact (((Below.refl _ W).alloc (Nat.le_refl _) _).alloc (by simp) _).alloc (by simp; omega) _
  have B0 : But S W W0 := But.of Bw
  have qf := B0.cell hBy hf
  have qr := hr.but B0 hb
  have nS : ∀ k, W.heap.size ≤ k → ¬ S k := fun k hk h => absurd (hS k h) (by omega)
  rw [hW0]
  clear hW0 a1 a2 a3 hc hr hf
  refine feed_out (n := 3) rfl (enters_of Tryz.func207 (by kernel_rfl) rfl) (both_feeds_f (W.heap.size + 1) (W.heap.size + 1 + 1) b cap em lo hi ls hlen S W0 (nS _ (by omega)) (nS _ (by omega)) hb (fun k hk => by have := hS k hk; omega) q1 q2 qr) (fun _ => rfl) (fun k hk => by have := hS k hk; omega)
    (fun (pre : List (Int × Int)) W' => J (pre.map fun p : Int × Int => g p.1 p.2) W' ∧ But S W0 W') (Stable.and (fun s A B h hb => st _ A B h (hb.mono (by omega))) (stable_but (Nat.le_refl _))) ⟨by simpa using st _ _ _ h0 Bw, But.refl _ _⟩
    (fun l0 x a' W' => a' = { tmps := #[.func (.yield l) #[] #[], .pointer (some ⟨Ba, 0, none⟩), .pointer (some ⟨Bb, 0, none⟩), .pointer (some ⟨By, 0, none⟩), .pointer (some ⟨W.heap.size, 0, none⟩), .int .u64 x.1, .int .u64 x.2, .agg #[.bool em, .int .u64 lo, .int .u64 hi], .slice (some ⟨b, 0, none⟩) ls.length cap, .func (.func 207) #[] #[.pointer (some ⟨W.heap.size + 1, 0, none⟩), .pointer (some ⟨W.heap.size + 1 + 1, 0, none⟩)], .int .u64 x.1, .int .u64 x.2, undef, undef, undef, undef, undef, undef, undef], defers := [] })
    (fun l0 x a' A B h ho => h) ?assign ?body ?done
  case assign =>
    rintro m l0 pre ⟨x, y⟩ W' K hl0 ll0 hp hI hK
    gi_wp2
    exact hK _ _ (But.refl _ _) hI rfl
  case body =>
    rintro m l0 pre ⟨x, y⟩ a' W' hl0 hrec hp ⟨hJ, hB⟩ rfl
    have z := hB.size
    have c0 := hB.cell (nS _ (Nat.le_refl _)) q0
    have c1 := hB.cell hBy qf
    have mem : (x, y) ∈ pairsL (em, lo, hi) ls := List.IsPrefix.subset hp (by simp)
    have hb1 := fun V (hV : Below W'.heap.size W' V) => hby x y V mem ((B0.trans hB).call hV)
    have hpm : (pre.map fun p : Int × Int => g p.1 p.2) ++ [g x y] <+: (pairsL (em, lo, hi) ls).map (fun p => g p.1 p.2) := by
      obtain ⟨t, ht⟩ := hp
      exact ⟨t.map fun p => g p.1 p.2, by rw [← ht]; simp⟩
    have hgo := fun V (hV : Below W'.heap.size W' V) => hY _ (g x y) V hpm (st _ W' V hJ (hV.mono (by omega))) (m - 1)
    have hend : ∀ V, J ((pre.map fun p : Int × Int => g p.1 p.2) ++ [g x y]) V → J ((pre ++ [(x, y)]).map fun p : Int × Int => g p.1 p.2) V := fun V h => by simpa using h
    clear hY hpm
    clear hend
    have hmix : Tryz.prog.follows .mixedOrders = true := by kernel_rfl
    gi_wp2
    gi_region_with_o (first
      | (refine ⟨trivial, (fun h => by cases h), ?_⟩; refine (CallsIn.inRound l0 (callsIn_wide.2 (hb1 _ (by first | exact Below.refl _ _ | exact (Below.refl _ _).drew | exact (Below.refl _ _).drew.drew)))).mono ?_; rintro e V ⟨rfl, bV⟩; have bV' : Below W'.heap.size W' V := ⟨bV.os, bV.tape, bV.output, bV.size, bV.block⟩; have c0' := (But.of (S := S) bV').cell (nS _ (Nat.le_refl _)) c0; obtain ⟨fn1, t1, as1, bo1, hy1, hR1⟩ := hgo V bV')
      | (refine ⟨(fun h => by cases h), ?_⟩; have hR2 : RoundIn (Fence.wide.inRound l0) (m - 1) Tryz.prog l fn1 t1 as1 bo1 V _ := hR1; refine hR2.mono ?_; rintro e V2 ⟨rfl, hJ3, hB3⟩)
      | fail)
    all_goals gi_wp2
    all_goals exact ⟨(But.of bV').trans hB3, by simpa using hJ3, hB.trans ((But.of bV').trans hB3)⟩
  case done =>
    rintro D W' hD ⟨hJ, hB⟩ hK
    gi_wp2
    refine ⟨by simp, .inl ⟨_, _, rfl, run_takeDeferred hK, ?_⟩⟩
    exact ⟨_, results_none rfl _ _ _, ⟨_, rfl⟩, st _ _ _ hJ ((OnlyAt.put _ _ _).below (by omega))⟩
set_option maxHeartbeats 1000000 in
theorem each2_f (fv : Value) (hfv : ∃ kb caps, fv = .func (.func kb) #[] caps) (e : Bool) (lo hi : Int) (v : Value) (hv : ∃ b n cap, v = .slice (some ⟨b, 0, none⟩) n cap) (w : World) : Calls Tryz.prog 156 #[fv, .agg #[.bool e, .int .u64 lo, .int .u64 hi], v] w fun r w' => r = .returned (.func (.func 194) #[] #[.pointer (some ⟨w.heap.size + 1, 0, none⟩), .pointer (some ⟨w.heap.size + 1 + 1, 0, none⟩), .pointer (some ⟨w.heap.size, 0, none⟩)]) ∧ w' = ((w.alloc (.cells #[fv] 144)).alloc (.cells #[.bool e, .int .u64 lo, .int .u64 hi] 126)).alloc (.cells #[v] 211) := by
  obtain ⟨b, n, cap, rfl⟩ := hv
  obtain ⟨kb, caps, rfl⟩ := hfv
  go_enter Tryz.func156, Tryz.ntmps156
  go_wp2_with fail
  go_ret
  exact ⟨rfl, rfl⟩
theorem each2_feeds_f (Ba Bb By b cap kb : Nat) (caps : Array Value) (g : Int → Int → Int) (em : Bool) (lo hi : Int) (ls : List (Bool × Int × Int)) (hlen : ls.length ≤ 1000) (S : Nat → Prop) (w : World) (hBa : ¬ S Ba) (hBb : ¬ S Bb) (hBy : ¬ S By) (hb : ¬ S b) (hS : ∀ k, S k → k < w.heap.size)
    (hby : ∀ x y V, (x, y) ∈ pairsL (em, lo, hi) ls → But S w V → Calls Tryz.prog kb (#[.int .u64 x, .int .u64 y] ++ caps) V fun e V' => e = .returned (.int .u64 (g x y)) ∧ Below V.heap.size V V')
    (eby : ∀ args w, (callFunc kb args).run Tryz.prog w = .ok (.enter kb args) w)
    (ha : Box3f w Ba (em, lo, hi)) (hc : w.cell? ⟨Bb, 0, none⟩ = some (.slice (some ⟨b, 0, none⟩) ls.length cap)) (hf : w.cell? ⟨By, 0, none⟩ = some (.func (.func kb) #[] caps)) (hr : SRowf w b ls) :
    Feeds Tryz.prog 194 #[.pointer (some ⟨Ba, 0, none⟩), .pointer (some ⟨Bb, 0, none⟩), .pointer (some ⟨By, 0, none⟩)] (fun x : Int => #[Value.int .u64 x]) S ((pairsL (em, lo, hi) ls).map fun p => g p.1 p.2) w := fun l J W hW st hY h0 =>
  each21_f l Ba Bb By b cap kb caps g em lo hi ls hlen S W hBa hBb hBy hb (fun k hk => Nat.lt_of_lt_of_le (hS k hk) hW.size) J hY (fun x y V hm hV => hby x y V hm ((But.of hW).trans hV)) eby st (ha.but (But.of (S := S) hW) hBa) ((But.of (S := S) hW).cell hBb hc) ((But.of (S := S) hW).cell hBy hf) (hr.but (But.of (S := S) hW) hb) h0
end Go.Proofs.YteafnkimcidkhaaGreat

namespace Go.Proofs.YteafnkimcidkhaaGreat
open Go.RowKit
set_option linter.unusedVariables false
set_option linter.unusedSimpArgs false
theorem below_overf {W w2 : World} {o : Obj} (g : Below (W.alloc o).drew.heap.size (W.alloc o).drew w2) : Below W.heap.size W w2 :=
  ⟨g.os, g.tape, g.output, Nat.le_trans (Nat.le_trans (Nat.le_succ _) (by simp)) g.size, fun k hk => (g.block k (by show k < (W.alloc o).heap.size; simp; omega)).trans (Below.heap_alloc W o k hk)⟩
theorem lt_overf {W w2 : World} {o : Obj} (g : Below (W.alloc o).drew.heap.size (W.alloc o).drew w2) : W.heap.size < w2.heap.size := Nat.lt_of_lt_of_le (show W.heap.size < (W.alloc o).heap.size by simp) g.size
theorem srow_onf {W w2 : World} {e : Bool} {a b : Int} {t : TypeId} (g : Below (W.alloc (.cells #[.bool e, .int .u64 a, .int .u64 b] t)).drew.heap.size (W.alloc (.cells #[.bool e, .int .u64 a, .int .u64 b] t)).drew w2) : SRowf w2 W.heap.size [(e, a, b)] := fun j s hj => by
  cases j with
  | zero =>
    simp at hj; subst hj
    exact ⟨sO g (show (W.alloc _).cell? _ = some _ by simp [go_sem]), sO g (show (W.alloc _).cell? _ = some _ by simp [go_sem]), sO g (show (W.alloc _).cell? _ = some _ by simp [go_sem])⟩
  | succ n => simp at hj
theorem each2x_f (kb : Nat) (caps : Array Value) (e : Bool) (lo hi : Int) (b n cap : Nat) (w : World) : Calls Tryz.prog 156 #[.func (.func kb) #[] caps, .agg #[.bool e, .int .u64 lo, .int .u64 hi], .slice (some ⟨b, 0, none⟩) n cap] w fun r w' =>
    ∃ p : Nat, r = .returned (.func (.func 194) #[] #[.pointer (some ⟨p + 1, 0, none⟩), .pointer (some ⟨p + 1 + 1, 0, none⟩), .pointer (some ⟨p, 0, none⟩)]) ∧ w'.cell? ⟨p, 0, none⟩ = some (.func (.func kb) #[] caps) ∧ Box3f w' (p + 1) (e, lo, hi) ∧ w'.cell? ⟨p + 1 + 1, 0, none⟩ = some (.slice (some ⟨b, 0, none⟩) n cap) ∧ p + 1 + 1 < w'.heap.size ∧ Below w.heap.size w w' := by
  refine (each2_f (.func (.func kb) #[] caps) ⟨_, _, rfl⟩ e lo hi (.slice (some ⟨b, 0, none⟩) n cap) ⟨_, _, _, rfl⟩ w).mono ?_
  rintro r w' ⟨rfl, rfl⟩
  exact ⟨w.heap.size, rfl, by simp [go_sem], by unfold Box3f; simp [go_sem], by simp [go_sem], by simp, (sp_new (sp_new (sp_new (Below.refl _ _) _) _) _)⟩
theorem feeds2_f {p b cap kb : Nat} {caps : Array Value} {g : Int → Int → Int} {em : Bool} {lo hi : Int} {ls : List (Bool × Int × Int)} {okp : Int → Int → Prop} {v1 v2 W0 : World} {S : Nat → Prop} (f0 : v2.cell? ⟨p, 0, none⟩ = some (.func (.func kb) #[] caps)) (f1 : Box3f v2 (p + 1) (em, lo, hi)) (f2 : v2.cell? ⟨p + 1 + 1, 0, none⟩ = some (.slice (some ⟨b, 0, none⟩) ls.length cap)) (srow : SRowf v2 b ls) (hlen : ls.length ≤ 1000) (hp : p + 1 + 1 < v2.heap.size) (hb : b < v2.heap.size)
    (eby : ∀ args w, (callFunc kb args).run Tryz.prog w = .ok (.enter kb args) w) (hby : ∀ x y X, okp x y → Below v1.heap.size v1 X → Calls Tryz.prog kb (#[.int .u64 x, .int .u64 y] ++ caps) X fun e X' => e = .returned (.int .u64 (g x y)) ∧ Below X.heap.size X X') (hok : ∀ q ∈ pairsL (em, lo, hi) ls, okp q.1 q.2)
    (b12 : Below v1.heap.size v1 v2) (hW : Below v2.heap.size v2 W0) (hSS : ∀ k, S k → v2.heap.size ≤ k ∧ k < W0.heap.size) :
    Feeds Tryz.prog 194 #[.pointer (some ⟨p + 1, 0, none⟩), .pointer (some ⟨p + 1 + 1, 0, none⟩), .pointer (some ⟨p, 0, none⟩)] (fun x : Int => #[Value.int .u64 x]) S ((pairsL (em, lo, hi) ls).map fun p => g p.1 p.2) W0 := by
  have nS : ∀ k, k < v2.heap.size → ¬ S k := fun k hk h => absurd (hSS k h).1 (by omega)
  have z := b12.size
  have bu : But S v2 W0 := But.of hW
  refine each2_feeds_f (p + 1) (p + 1 + 1) p b cap kb caps g em lo hi ls hlen S W0 (nS _ (by omega)) (nS _ hp) (nS _ (by omega)) (nS _ hb) (fun k hk => (hSS k hk).2) (fun x y V hm hV => hby x y V (hok (x, y) hm) ?_) eby (f1.but bu (nS _ (by omega))) (bu.cell (nS _ hp) f2) (bu.cell (nS _ (by simp; omega)) f0) (srow.but bu (nS _ hb))
  exact (b12.trans (hW.mono z)).trans (hV.below (Nat.le_trans z hW.size) (fun k hk => Nat.le_trans z (hSS k hk).1))
theorem fn_nil_f (kb : Nat) (caps : Array Value) (w : World) : (binOp BinOp.eql 144 (.func (.func kb) #[] caps) .nilFunc).run Tryz.prog w = .ok (.bool false) w := by kernel_rfl
def By2f (L : Ln) (A : Ways) (B : Nat) (w0 : World) (op : Int) (ok : Int → Int → Prop) (g : Int → Int → Int) : Prop :=
  ∀ V, Below B w0 V → Calls Tryz.prog L.kt (#[.int .i64 op] ++ L.ct) V fun e V' => Below V.heap.size V V' ∧ ∃ kb caps, e = .returned (.func (.func kb) #[] caps) ∧ (∀ args w, (callFunc kb args).run Tryz.prog w = .ok (.enter kb args) w)
    ∧ ∀ x y X, ok x y → Below V'.heap.size V' X → Calls Tryz.prog kb (#[.int .u64 x, .int .u64 y] ++ caps) X fun e X' => e = .returned (.int .u64 (g x y)) ∧ Below X.heap.size X X'
set_option maxRecDepth 100000 in
set_option maxHeartbeats 6400000 in
theorem two_f {L : Ln} {A : Ways} {B : Nat} {w0 : World} (H : Actsf L A B w0) (et : ∀ args w, (callFunc L.kt args).run Tryz.prog w = .ok (.enter L.kt args) w) (T : Int) (hT : ∀ w, Calls Tryz.prog 148 #[.int .i64 L.past] w fun e w' => e = .returned (.int .i64 T) ∧ w' = w) (op : Int) (hop : (op == 11) = false) (okp : Int → Int → Prop) (g : Int → Int → Int) (h2 : By2f L A B w0 op okp g)
    (a b c d : Int) (d0 : A.dom 0) (dl : A.dom L.least) (dm : A.dom L.most) (hx : ∀ p ∈ pairsL (false, a, b) [(false, c, d)], okp p.1 p.2 ∧ A.dom (g p.1 p.2) ∧ A.dom (A.pl (g p.1 p.2))) (w : World) (ok : Below B w0 w) :
    Calls Tryz.prog 103 #[.agg (lvf L), .int .i64 op, .agg #[.bool false, .int .u64 a, .int .u64 b], .agg #[.bool false, .int .u64 c, .int .u64 d]] w fun e w' =>
      e = .returned (.tuple #[sVf (meetP A (hullP A ((pairsL (false, a, b) [(false, c, d)]).map fun p => g p.1 p.2)) (false, L.least, L.most)), .int .i64 (trapP A L T ((pairsL (false, a, b) [(false, c, d)]).map fun p => g p.1 p.2))]) ∧ Below w.heap.size w w' := by
  have hB := H.hB
  have htold := fun gf lb w ok eg hseq => told_f H T hT gf lb ((pairsL (false, a, b) [(false, c, d)]).map fun p => g p.1 p.2) d0 dl dm (fun x hxm => by
    obtain ⟨p, hp, rfl⟩ := List.mem_map.1 hxm
    exact (hx p hp).2) w ok eg hseq
  have he2 := each2x_f
  have hok : ∀ q ∈ pairsL (false, a, b) [(false, c, d)], okp q.1 q.2 := fun q hq => (hx q hq).1
  clear hx
  generalize meetP A (hullP A ((pairsL (false, a, b) [(false, c, d)]).map fun p => g p.1 p.2)) (false, L.least, L.most) = R at *
  obtain ⟨me, mlo, mhi⟩ := R
  generalize trapP A L T ((pairsL (false, a, b) [(false, c, d)]).map fun p => g p.1 p.2) = TR at *
  unfold sVf lvf at *
  dsimp only at *
  have hq := h2
  unfold By2f at hq
  go_enter Tryz.func103, Tryz.ntmps103
  go_wp2_with fail
  obtain ⟨W, hW⟩ : ∃ W, ((((w.alloc (.cells #[.int .u64 L.least, .int .u64 L.most, .int .i64 L.past, .func (.func L.ko) #[] L.co, .func (.func L.kp) #[] L.cp, .func (.func L.k1) #[] L.c1, .func (.func L.kv) #[] L.cv, .func (.func L.kn) #[] L.cn, .func (.func L.ku) #[] L.cu, .func (.func L.kt) #[] L.ct, .func (.func L.kz) #[] L.cz] 134)).alloc (.cells #[.bool false, .int .u64 a, .int .u64 b] 126)).alloc (.cells #[.bool false, .int .u64 c, .int .u64 d] 126)).alloc (.cells #[.bool false, .int .u64 0, .int .u64 0] 126)) = W := ⟨_, rfl⟩
  have l0 : W.cell? ⟨w.heap.size, 0, none⟩ = some (.int .u64 L.least) := by rw [← hW]; simp [go_sem]
  have l1 : W.cell? ⟨w.heap.size, 1, none⟩ = some (.int .u64 L.most) := by rw [← hW]; simp [go_sem]
  have l2 : W.cell? ⟨w.heap.size, 2, none⟩ = some (.int .i64 L.past) := by rw [← hW]; simp [go_sem]
  have l3 : W.cell? ⟨w.heap.size, 3, none⟩ = some (.func (.func L.ko) #[] L.co) := by rw [← hW]; simp [go_sem]
  have l4 : W.cell? ⟨w.heap.size, 4, none⟩ = some (.func (.func L.kp) #[] L.cp) := by rw [← hW]; simp [go_sem]
  have l5 : W.cell? ⟨w.heap.size, 5, none⟩ = some (.func (.func L.k1) #[] L.c1) := by rw [← hW]; simp [go_sem]
  have l6 : W.cell? ⟨w.heap.size, 6, none⟩ = some (.func (.func L.kv) #[] L.cv) := by rw [← hW]; simp [go_sem]
  have l7 : W.cell? ⟨w.heap.size, 7, none⟩ = some (.func (.func L.kn) #[] L.cn) := by rw [← hW]; simp [go_sem]
  have l8 : W.cell? ⟨w.heap.size, 8, none⟩ = some (.func (.func L.ku) #[] L.cu) := by rw [← hW]; simp [go_sem]
  have l9 : W.cell? ⟨w.heap.size, 9, none⟩ = some (.func (.func L.kt) #[] L.ct) := by rw [← hW]; simp [go_sem]
  have l10 : W.cell? ⟨w.heap.size, 10, none⟩ = some (.func (.func L.kz) #[] L.cz) := by rw [← hW]; simp [go_sem]
  have a0 : W.cell? ⟨w.heap.size + 1, 0, none⟩ = some (.bool false) := by rw [← hW]; simp [go_sem]
  have a1 : W.cell? ⟨w.heap.size + 1, 1, none⟩ = some (.int .u64 a) := by rw [← hW]; simp [go_sem]
  have a2 : W.cell? ⟨w.heap.size + 1, 2, none⟩ = some (.int .u64 b) := by rw [← hW]; simp [go_sem]
  have b0 : W.cell? ⟨w.heap.size + 1 + 1, 0, none⟩ = some (.bool false) := by rw [← hW]; simp [go_sem]
  have b1 : W.cell? ⟨w.heap.size + 1 + 1, 1, none⟩ = some (.int .u64 c) := by rw [← hW]; simp [go_sem]
  have b2 : W.cell? ⟨w.heap.size + 1 + 1, 2, none⟩ = some (.int .u64 d) := by rw [← hW]; simp [go_sem]
  have r0 : W.cell? ⟨w.heap.size + 1 + 1 + 1, 0, none⟩ = some (.bool false) := by rw [← hW]; simp [go_sem]
  have r1 : W.cell? ⟨w.heap.size + 1 + 1 + 1, 1, none⟩ = some (.int .u64 0) := by rw [← hW]; simp [go_sem]
  have r2 : W.cell? ⟨w.heap.size + 1 + 1 + 1, 2, none⟩ = some (.int .u64 0) := by rw [← hW]; simp [go_sem]
  have okW : Below B w0 W := by rw [← hW]; exact (ok_new hB (ok_new hB (ok_new hB (ok_new hB ok _) _) _) _)
  have bW : Below w.heap.size w W := by rw [← hW]; exact (sp_new (sp_new (sp_new (sp_new (Below.refl _ _) _) _) _) _)
  have zW : W.heap.size = w.heap.size + 4 := by rw [← hW]; simp
  have fz : ∀ j, W.frozen? ⟨w.heap.size + 1 + 1 + 1, j, none⟩ = false := by intro j; rw [← hW]; simp [go_sem]
  rw [hW]
  clear hW
  with_reducible refine (hq _ okW).mono ?_
  rintro e v1 ⟨g1, kb, caps, rfl, eby, hby⟩
  replace fz := fun j => (g1.frozen (p := ⟨w.heap.size + 1 + 1 + 1, j, none⟩) (by simp; omega)).trans (fz j)
  have z1 := g1.size
  replace okW := ok_call hB okW g1
  replace bW := sp_call bW g1
  replace l0 := sO g1 l0; replace l1 := sO g1 l1; replace l2 := sO g1 l2; replace l3 := sO g1 l3; replace l4 := sO g1 l4; replace l5 := sO g1 l5; replace l6 := sO g1 l6; replace l7 := sO g1 l7; replace l8 := sO g1 l8; replace l9 := sO g1 l9; replace l10 := sO g1 l10; replace a0 := sO g1 a0; replace a1 := sO g1 a1; replace a2 := sO g1 a2; replace b0 := sO g1 b0; replace b1 := sO g1 b1; replace b2 := sO g1 b2; replace r0 := sO g1 r0; replace r1 := sO g1 r1; replace r2 := sO g1 r2
  have hn := fn_nil_f kb caps
  go_wp2_with fail
  go_region_held3 (fun w' => w'.cell? ⟨w.heap.size, 0, none⟩ = some (.int .u64 L.least) ∧ w'.cell? ⟨w.heap.size, 1, none⟩ = some (.int .u64 L.most) ∧ w'.cell? ⟨w.heap.size, 2, none⟩ = some (.int .i64 L.past) ∧ w'.cell? ⟨w.heap.size, 3, none⟩ = some (.func (.func L.ko) #[] L.co) ∧ w'.cell? ⟨w.heap.size, 4, none⟩ = some (.func (.func L.kp) #[] L.cp) ∧ w'.cell? ⟨w.heap.size, 5, none⟩ = some (.func (.func L.k1) #[] L.c1) ∧ w'.cell? ⟨w.heap.size, 6, none⟩ = some (.func (.func L.kv) #[] L.cv) ∧ w'.cell? ⟨w.heap.size, 7, none⟩ = some (.func (.func L.kn) #[] L.cn) ∧ w'.cell? ⟨w.heap.size, 8, none⟩ = some (.func (.func L.ku) #[] L.cu) ∧ w'.cell? ⟨w.heap.size, 9, none⟩ = some (.func (.func L.kt) #[] L.ct) ∧ w'.cell? ⟨w.heap.size, 10, none⟩ = some (.func (.func L.kz) #[] L.cz) ∧ w'.cell? ⟨w.heap.size + 1, 0, none⟩ = some (.bool false) ∧ w'.cell? ⟨w.heap.size + 1, 1, none⟩ = some (.int .u64 a) ∧ w'.cell? ⟨w.heap.size + 1, 2, none⟩ = some (.int .u64 b) ∧ w'.cell? ⟨w.heap.size + 1 + 1, 0, none⟩ = some (.bool false) ∧ w'.cell? ⟨w.heap.size + 1 + 1, 1, none⟩ = some (.int .u64 c) ∧ w'.cell? ⟨w.heap.size + 1 + 1, 2, none⟩ = some (.int .u64 d)) (first | exact ⟨l0, l1, l2, l3, l4, l5, l6, l7, l8, l9, l10, a0, a1, a2, b0, b1, b2⟩ | exact ⟨sO (sp_new (Below.refl _ _) _) l0, sO (sp_new (Below.refl _ _) _) l1, sO (sp_new (Below.refl _ _) _) l2, sO (sp_new (Below.refl _ _) _) l3, sO (sp_new (Below.refl _ _) _) l4, sO (sp_new (Below.refl _ _) _) l5, sO (sp_new (Below.refl _ _) _) l6, sO (sp_new (Below.refl _ _) _) l7, sO (sp_new (Below.refl _ _) _) l8, sO (sp_new (Below.refl _ _) _) l9, sO (sp_new (Below.refl _ _) _) l10, sO (sp_new (Below.refl _ _) _) a0, sO (sp_new (Below.refl _ _) _) a1, sO (sp_new (Below.refl _ _) _) a2, sO (sp_new (Below.refl _ _) _) b0, sO (sp_new (Below.refl _ _) _) b1, sO (sp_new (Below.refl _ _) _) b2⟩ | exact ⟨sp_keep3 l0 (by omega) _ _ _, sp_keep3 l1 (by omega) _ _ _, sp_keep3 l2 (by omega) _ _ _, sp_keep3 l3 (by omega) _ _ _, sp_keep3 l4 (by omega) _ _ _, sp_keep3 l5 (by omega) _ _ _, sp_keep3 l6 (by omega) _ _ _, sp_keep3 l7 (by omega) _ _ _, sp_keep3 l8 (by omega) _ _ _, sp_keep3 l9 (by omega) _ _ _, sp_keep3 l10 (by omega) _ _ _, sp_keep3 a0 (by omega) _ _ _, sp_keep3 a1 (by omega) _ _ _, sp_keep3 a2 (by omega) _ _ _, sp_keep3 b0 (by omega) _ _ _, sp_keep3 b1 (by omega) _ _ _, sp_keep3 b2 (by omega) _ _ _⟩)
    (first
      | (go_at_call 156; refine (he2 _ _ _ _ _ _ _ _ _).mono ?_; rintro e v2 ⟨p, rfl, f0, f1, f2, hp, g2⟩; have srow : SRowf v2 v1.heap.size [(false, c, d)] := srow_onf g2; have zb : v1.heap.size < v2.heap.size := lt_overf g2; replace g2 : Below v1.heap.size v1 v2 := below_overf g2; replace fz := fun j => (g2.frozen (p := ⟨w.heap.size + 1 + 1 + 1, j, none⟩) (by simp; omega)).trans (fz j); have z2 := g2.size; replace okW := ok_call hB okW g2; replace bW := sp_call bW g2; replace l0 := sO g2 l0; replace l1 := sO g2 l1; replace l2 := sO g2 l2; replace l3 := sO g2 l3; replace l4 := sO g2 l4; replace l5 := sO g2 l5; replace l6 := sO g2 l6; replace l7 := sO g2 l7; replace l8 := sO g2 l8; replace l9 := sO g2 l9; replace l10 := sO g2 l10; replace a0 := sO g2 a0; replace a1 := sO g2 a1; replace a2 := sO g2 a2; replace b0 := sO g2 b0; replace b1 := sO g2 b1; replace b2 := sO g2 b2; replace r0 := sO g2 r0; replace r1 := sO g2 r1; replace r2 := sO g2 r2)
      | (go_at_call 155; refine (htold _ _ _ (by first | exact okW | exact okW.drew) (enters_of Tryz.func194 (by kernel_rfl) rfl) (fun S W0 hW hSS => feeds2_f (ls := [(false, c, d)]) f0 f1 f2 srow (by simp) hp zb eby hby hok g2 ⟨hW.os, hW.tape, hW.output, hW.size, hW.block⟩ hSS)).mono ?_; rintro e v3 ⟨rfl, g3⟩; replace g3 : Below v2.heap.size v2 v3 := ⟨g3.os, g3.tape, g3.output, g3.size, g3.block⟩; replace fz := fun j => (g3.frozen (p := ⟨w.heap.size + 1 + 1 + 1, j, none⟩) (by simp; omega)).trans (fz j); have z3 := g3.size; replace bW := sp_call bW g3; replace l0 := sO g3 l0; replace l1 := sO g3 l1; replace l2 := sO g3 l2; replace l3 := sO g3 l3; replace l4 := sO g3 l4; replace l5 := sO g3 l5; replace l6 := sO g3 l6; replace l7 := sO g3 l7; replace l8 := sO g3 l8; replace l9 := sO g3 l9; replace l10 := sO g3 l10; replace a0 := sO g3 a0; replace a1 := sO g3 a1; replace a2 := sO g3 a2; replace b0 := sO g3 b0; replace b1 := sO g3 b1; replace b2 := sO g3 b2; replace r0 := sO g3 r0; replace r1 := sO g3 r1; replace r2 := sO g3 r2)
      | fail)
  all_goals go_wp2
  all_goals exact bodyPost_ret (v := .tuple #[.agg #[.bool me, .int .u64 mlo, .int .u64 mhi], .int .i64 TR]) (by simp [results, Tryz.results103, go_sem, r0, r1, r2]) rfl ⟨rfl, sp_set3 bW (by omega) _ _ _⟩
end Go.Proofs.YteafnkimcidkhaaGreat

namespace Go.Proofs.YteafnkimcidkhaaGreat
open Go.RowKit
set_option linter.unusedVariables false
set_option linter.unusedSimpArgs false
set_option maxRecDepth 100000 in
set_option maxHeartbeats 6400000 in
theorem has_f {L : Ln} {A : Ways} {B : Nat} {w0 : World} (H : Actsf L A B w0) (e1 : Bool) (a b x : Int) (da : A.dom a) (db : A.dom b) (dx : A.dom x) (dpx : A.dom (A.pl x)) (w : World) (ok : Below B w0 w) :
    Calls Tryz.prog 147 #[.agg (lvf L), .agg #[.bool e1, .int .u64 a, .int .u64 b], .int .u64 x] w fun e w' => e = .returned (.bool (hasP A (e1, a, b) x)) ∧ Below w.heap.size w w' := by
  have h1 := fun V ok => H.pl x V dx ok
  have h2 := fun V ok => H.one (A.pl x) V dpx ok
  have h3 := fun V ok => H.ord a x V da dx ok
  have h4 := fun V ok => H.ord x b V dx db ok
  have hB := H.hB
  have eo := H.eo
  have ep := H.ep
  have e1' := H.e1
  unfold lvf hasP
  dsimp only
  clear H
  generalize A.one (A.pl x) = p1 at *
  generalize A.pl x = px at *
  generalize A.ord a x = o1 at *
  generalize A.ord x b = o2 at *
  cases e1
  · cases p1
    · go_enter Tryz.func147, Tryz.ntmps147
      go_wp2_with fail
      obtain ⟨W, hW⟩ : ∃ W, ((w.alloc (.cells #[.int .u64 L.least, .int .u64 L.most, .int .i64 L.past, .func (.func L.ko) #[] L.co, .func (.func L.kp) #[] L.cp, .func (.func L.k1) #[] L.c1, .func (.func L.kv) #[] L.cv, .func (.func L.kn) #[] L.cn, .func (.func L.ku) #[] L.cu, .func (.func L.kt) #[] L.ct, .func (.func L.kz) #[] L.cz] 134)).alloc (.cells #[.bool false, .int .u64 a, .int .u64 b] 126)) = W := ⟨_, rfl⟩
      have l0 : W.cell? ⟨w.heap.size, 0, none⟩ = some (.int .u64 L.least) := by rw [← hW]; simp [go_sem]
      have l1 : W.cell? ⟨w.heap.size, 1, none⟩ = some (.int .u64 L.most) := by rw [← hW]; simp [go_sem]
      have l2 : W.cell? ⟨w.heap.size, 2, none⟩ = some (.int .i64 L.past) := by rw [← hW]; simp [go_sem]
      have l3 : W.cell? ⟨w.heap.size, 3, none⟩ = some (.func (.func L.ko) #[] L.co) := by rw [← hW]; simp [go_sem]
      have l4 : W.cell? ⟨w.heap.size, 4, none⟩ = some (.func (.func L.kp) #[] L.cp) := by rw [← hW]; simp [go_sem]
      have l5 : W.cell? ⟨w.heap.size, 5, none⟩ = some (.func (.func L.k1) #[] L.c1) := by rw [← hW]; simp [go_sem]
      have l6 : W.cell? ⟨w.heap.size, 6, none⟩ = some (.func (.func L.kv) #[] L.cv) := by rw [← hW]; simp [go_sem]
      have l7 : W.cell? ⟨w.heap.size, 7, none⟩ = some (.func (.func L.kn) #[] L.cn) := by rw [← hW]; simp [go_sem]
      have l8 : W.cell? ⟨w.heap.size, 8, none⟩ = some (.func (.func L.ku) #[] L.cu) := by rw [← hW]; simp [go_sem]
      have l9 : W.cell? ⟨w.heap.size, 9, none⟩ = some (.func (.func L.kt) #[] L.ct) := by rw [← hW]; simp [go_sem]
      have l10 : W.cell? ⟨w.heap.size, 10, none⟩ = some (.func (.func L.kz) #[] L.cz) := by rw [← hW]; simp [go_sem]
      have a0 : W.cell? ⟨w.heap.size + 1, 0, none⟩ = some (.bool false) := by rw [← hW]; simp [go_sem]
      have a1 : W.cell? ⟨w.heap.size + 1, 1, none⟩ = some (.int .u64 a) := by rw [← hW]; simp [go_sem]
      have a2 : W.cell? ⟨w.heap.size + 1, 2, none⟩ = some (.int .u64 b) := by rw [← hW]; simp [go_sem]
      have okW : Below B w0 W := by rw [← hW]; exact (ok_new hB (ok_new hB ok _) _)
      have bW : Below w.heap.size w W := by rw [← hW]; exact (sp_new (sp_new (Below.refl _ _) _) _)
      have zW : W.heap.size = w.heap.size + 2 := by rw [← hW]; simp
      rw [hW]
      clear hW
      refine wp_region_held_drew (S := (fun w' => w'.cell? ⟨w.heap.size, 3, none⟩ = some (.func (.func L.ko) #[] L.co) ∧ w'.cell? ⟨w.heap.size, 4, none⟩ = some (.func (.func L.kp) #[] L.cp) ∧ w'.cell? ⟨w.heap.size, 5, none⟩ = some (.func (.func L.k1) #[] L.c1) ∧ w'.cell? ⟨w.heap.size + 1, 0, none⟩ = some (.bool false) ∧ w'.cell? ⟨w.heap.size + 1, 1, none⟩ = some (.int .u64 a) ∧ w'.cell? ⟨w.heap.size + 1, 2, none⟩ = some (.int .u64 b))) (by kernel_rfl) ⟨l3, l4, l5, a0, a1, a2⟩ (fun hH0 => ?_)
      refine wpAnyH_take (i := 0) (oi := _) (v := .pointer (some ⟨w.heap.size + 1, 0, none⟩)) rfl (by kernel_rfl) (by kernel_rfl) (by kernel_rfl) (fun _ _ _ h => h) (Or.inl ⟨by rfl, fun w' hSw => by obtain ⟨z0, z1, z2, z3, z4, z5⟩ := hSw; go_simp⟩) hH0 ?_
      simp only [Act.put, List.getElem_toArray, List.getElem_cons_zero, List.getElem_cons_succ, List.setIfInBounds_toArray, List.set_cons_zero, List.set_cons_succ]
      refine wpAnyH_take (i := 1) (oi := _) (v := .bool false) rfl (by kernel_rfl) (by kernel_rfl) (by kernel_rfl) (fun _ _ _ h => h) (Or.inl ⟨by rfl, fun w' hSw => by obtain ⟨z0, z1, z2, z3, z4, z5⟩ := hSw; go_simp⟩) hH0 ?_
      simp only [Act.put, List.getElem_toArray, List.getElem_cons_zero, List.getElem_cons_succ, List.setIfInBounds_toArray, List.set_cons_zero, List.set_cons_succ]
      refine wpAnyH_take (i := 2) (oi := _) (v := .bool true) rfl (by kernel_rfl) (by kernel_rfl) (by kernel_rfl) (fun _ _ _ h => h) (Or.inl ⟨by rfl, fun w' hSw => by obtain ⟨z0, z1, z2, z3, z4, z5⟩ := hSw; go_simp⟩) hH0 ?_
      simp only [Act.put, List.getElem_toArray, List.getElem_cons_zero, List.getElem_cons_succ, List.setIfInBounds_toArray, List.set_cons_zero, List.set_cons_succ]
      refine wpAnyH_take (i := 3) (oi := _) (v := .bool true) rfl (by kernel_rfl) (by kernel_rfl) (by kernel_rfl) (fun _ _ _ h => h) (Or.inl ⟨by rfl, fun w' hSw => by obtain ⟨z0, z1, z2, z3, z4, z5⟩ := hSw; go_simp⟩) hH0 ?_
      simp only [Act.put, List.getElem_toArray, List.getElem_cons_zero, List.getElem_cons_succ, List.setIfInBounds_toArray, List.set_cons_zero, List.set_cons_succ]
      refine wpAnyH_take (i := 4) (oi := _) (v := .pointer (some ⟨w.heap.size, 5, none⟩)) rfl (by kernel_rfl) (by kernel_rfl) (by kernel_rfl) (fun _ _ _ h => h) (Or.inl ⟨by rfl, fun w' hSw => by obtain ⟨z0, z1, z2, z3, z4, z5⟩ := hSw; go_simp⟩) hH0 ?_
      simp only [Act.put, List.getElem_toArray, List.getElem_cons_zero, List.getElem_cons_succ, List.setIfInBounds_toArray, List.set_cons_zero, List.set_cons_succ]
      refine wpAnyH_take (i := 5) (oi := _) (v := .func (.func L.k1) #[] L.c1) rfl (by kernel_rfl) (by kernel_rfl) (by kernel_rfl) (fun _ _ _ h => h) (Or.inl ⟨by rfl, fun w' hSw => by obtain ⟨z0, z1, z2, z3, z4, z5⟩ := hSw; go_simp⟩) hH0 ?_
      simp only [Act.put, List.getElem_toArray, List.getElem_cons_zero, List.getElem_cons_succ, List.setIfInBounds_toArray, List.set_cons_zero, List.set_cons_succ]
      refine wpAnyH_take (i := 6) (oi := _) (v := .pointer (some ⟨w.heap.size, 4, none⟩)) rfl (by kernel_rfl) (by kernel_rfl) (by kernel_rfl) (fun _ _ _ h => h) (Or.inl ⟨by rfl, fun w' hSw => by obtain ⟨z0, z1, z2, z3, z4, z5⟩ := hSw; go_simp⟩) hH0 ?_
      simp only [Act.put, List.getElem_toArray, List.getElem_cons_zero, List.getElem_cons_succ, List.setIfInBounds_toArray, List.set_cons_zero, List.set_cons_succ]
      refine wpAnyH_take (i := 7) (oi := _) (v := .func (.func L.kp) #[] L.cp) rfl (by kernel_rfl) (by kernel_rfl) (by kernel_rfl) (fun _ _ _ h => h) (Or.inl ⟨by rfl, fun w' hSw => by obtain ⟨z0, z1, z2, z3, z4, z5⟩ := hSw; go_simp⟩) hH0 ?_
      simp only [Act.put, List.getElem_toArray, List.getElem_cons_zero, List.getElem_cons_succ, List.setIfInBounds_toArray, List.set_cons_zero, List.set_cons_succ]
      refine wpAnyH_take (i := 8) (oi := _) (v := .int .u64 x) rfl (by kernel_rfl) (by kernel_rfl) (by kernel_rfl) (fun _ _ _ h => h) (Or.inl ⟨by rfl, fun w' hSw => by obtain ⟨z0, z1, z2, z3, z4, z5⟩ := hSw; go_simp⟩) hH0 ?_
      simp only [Act.put, List.getElem_toArray, List.getElem_cons_zero, List.getElem_cons_succ, List.setIfInBounds_toArray, List.set_cons_zero, List.set_cons_succ]
      refine wpAnyH_ready (rs := [9]) (by kernel_rfl) (by simp) (AllReadyH.cons (o := _) rfl (fun K hK => ?_) AllReadyH.nil)
      go_simp
      refine (h1 _ (by first | exact okW | exact okW.drew)).mono ?_
      rintro e v1 ⟨rfl, g1⟩
      replace g1 : Below W.heap.size W v1 := ⟨g1.os, g1.tape, g1.output, g1.size, g1.block⟩
      replace l3 := sO g1 l3; replace l4 := sO g1 l4; replace l5 := sO g1 l5; replace a0 := sO g1 a0; replace a1 := sO g1 a1; replace a2 := sO g1 a2
      replace okW := ok_call hB okW g1
      replace bW := sp_call bW g1
      go_wp2_with fail
      refine hK.out _ _ ⟨l3, l4, l5, a0, a1, a2⟩ (fun hH1 => ?_)
      clear hK K hH0
      try simp only [Act.put, List.getElem_toArray, List.getElem_cons_zero, List.getElem_cons_succ, List.setIfInBounds_toArray, List.set_cons_zero, List.set_cons_succ]
      refine wpAnyH_ready (rs := [10]) (by kernel_rfl) (by simp) (AllReadyH.cons (o := _) rfl (fun K hK => ?_) AllReadyH.nil)
      go_simp
      refine (h2 _ (by first | exact okW | exact okW.drew)).mono ?_
      rintro e v2 ⟨rfl, g2⟩
      replace g2 : Below v1.heap.size v1 v2 := ⟨g2.os, g2.tape, g2.output, g2.size, g2.block⟩
      replace l3 := sO g2 l3; replace l4 := sO g2 l4; replace l5 := sO g2 l5; replace a0 := sO g2 a0; replace a1 := sO g2 a1; replace a2 := sO g2 a2
      replace okW := ok_call hB okW g2
      replace bW := sp_call bW g2
      go_wp2_with fail
      refine hK.out _ _ ⟨l3, l4, l5, a0, a1, a2⟩ (fun hH2 => ?_)
      clear hK K hH1
      try simp only [Act.put, List.getElem_toArray, List.getElem_cons_zero, List.getElem_cons_succ, List.setIfInBounds_toArray, List.set_cons_zero, List.set_cons_succ]
      refine wpAnyH_take (i := 11) (oi := _) (v := .bool false) rfl (by kernel_rfl) (by kernel_rfl) (by kernel_rfl) (fun _ _ _ h => h) (Or.inl ⟨by rfl, fun w' hSw => by obtain ⟨z0, z1, z2, z3, z4, z5⟩ := hSw; go_simp⟩) hH2 ?_
      simp only [Act.put, List.getElem_toArray, List.getElem_cons_zero, List.getElem_cons_succ, List.setIfInBounds_toArray, List.set_cons_zero, List.set_cons_succ]
      refine wpAnyH_take (i := 12) (oi := _) (v := .bool false) rfl (by kernel_rfl) (by kernel_rfl) (by kernel_rfl) (fun _ _ _ h => h) (Or.inl ⟨by rfl, fun w' hSw => by obtain ⟨z0, z1, z2, z3, z4, z5⟩ := hSw; go_simp⟩) hH2 ?_
      simp only [Act.put, List.getElem_toArray, List.getElem_cons_zero, List.getElem_cons_succ, List.setIfInBounds_toArray, List.set_cons_zero, List.set_cons_succ]
      refine wpAnyH_take (i := 13) (oi := _) (v := undef) rfl (by kernel_rfl) (by kernel_rfl) (by kernel_rfl) (fun _ _ _ h => h) (Or.inr ⟨by rfl, rfl⟩) hH2 ?_
      simp only [Act.put, List.getElem_toArray, List.getElem_cons_zero, List.getElem_cons_succ, List.setIfInBounds_toArray, List.set_cons_zero, List.set_cons_succ]
      refine wpAnyH_take (i := 14) (oi := _) (v := undef) rfl (by kernel_rfl) (by kernel_rfl) (by kernel_rfl) (fun _ _ _ h => h) (Or.inr ⟨by rfl, rfl⟩) hH2 ?_
      simp only [Act.put, List.getElem_toArray, List.getElem_cons_zero, List.getElem_cons_succ, List.setIfInBounds_toArray, List.set_cons_zero, List.set_cons_succ]
      refine wpAnyH_take (i := 15) (oi := _) (v := undef) rfl (by kernel_rfl) (by kernel_rfl) (by kernel_rfl) (fun _ _ _ h => h) (Or.inr ⟨by rfl, rfl⟩) hH2 ?_
      simp only [Act.put, List.getElem_toArray, List.getElem_cons_zero, List.getElem_cons_succ, List.setIfInBounds_toArray, List.set_cons_zero, List.set_cons_succ]
      refine wpAnyH_take (i := 16) (oi := _) (v := undef) rfl (by kernel_rfl) (by kernel_rfl) (by kernel_rfl) (fun _ _ _ h => h) (Or.inr ⟨by rfl, rfl⟩) hH2 ?_
      simp only [Act.put, List.getElem_toArray, List.getElem_cons_zero, List.getElem_cons_succ, List.setIfInBounds_toArray, List.set_cons_zero, List.set_cons_succ]
      refine wpAnyH_take (i := 17) (oi := _) (v := undef) rfl (by kernel_rfl) (by kernel_rfl) (by kernel_rfl) (fun _ _ _ h => h) (Or.inr ⟨by rfl, rfl⟩) hH2 ?_
      simp only [Act.put, List.getElem_toArray, List.getElem_cons_zero, List.getElem_cons_succ, List.setIfInBounds_toArray, List.set_cons_zero, List.set_cons_succ]
      refine wpAnyH_take (i := 18) (oi := _) (v := undef) rfl (by kernel_rfl) (by kernel_rfl) (by kernel_rfl) (fun _ _ _ h => h) (Or.inr ⟨by rfl, rfl⟩) hH2 ?_
      simp only [Act.put, List.getElem_toArray, List.getElem_cons_zero, List.getElem_cons_succ, List.setIfInBounds_toArray, List.set_cons_zero, List.set_cons_succ]
      refine wpAnyH_take (i := 19) (oi := _) (v := undef) rfl (by kernel_rfl) (by kernel_rfl) (by kernel_rfl) (fun _ _ _ h => h) (Or.inr ⟨by rfl, rfl⟩) hH2 ?_
      simp only [Act.put, List.getElem_toArray, List.getElem_cons_zero, List.getElem_cons_succ, List.setIfInBounds_toArray, List.set_cons_zero, List.set_cons_succ]
      refine wpAnyH_take (i := 20) (oi := _) (v := .bool false) rfl (by kernel_rfl) (by kernel_rfl) (by kernel_rfl) (fun _ _ _ h => h) (Or.inl ⟨by rfl, fun w' hSw => by obtain ⟨z0, z1, z2, z3, z4, z5⟩ := hSw; go_simp⟩) hH2 ?_
      simp only [Act.put, List.getElem_toArray, List.getElem_cons_zero, List.getElem_cons_succ, List.setIfInBounds_toArray, List.set_cons_zero, List.set_cons_succ]
      refine wpAnyH_take (i := 21) (oi := _) (v := .bool false) rfl (by kernel_rfl) (by kernel_rfl) (by kernel_rfl) (fun _ _ _ h => h) (Or.inl ⟨by rfl, fun w' hSw => by obtain ⟨z0, z1, z2, z3, z4, z5⟩ := hSw; go_simp⟩) hH2 ?_
      simp only [Act.put, List.getElem_toArray, List.getElem_cons_zero, List.getElem_cons_succ, List.setIfInBounds_toArray, List.set_cons_zero, List.set_cons_succ]
      refine wpAnyH_take (i := 22) (oi := _) (v := undef) rfl (by kernel_rfl) (by kernel_rfl) (by kernel_rfl) (fun _ _ _ h => h) (Or.inr ⟨by rfl, rfl⟩) hH2 ?_
      simp only [Act.put, List.getElem_toArray, List.getElem_cons_zero, List.getElem_cons_succ, List.setIfInBounds_toArray, List.set_cons_zero, List.set_cons_succ]
      refine wpAnyH_take (i := 23) (oi := _) (v := undef) rfl (by kernel_rfl) (by kernel_rfl) (by kernel_rfl) (fun _ _ _ h => h) (Or.inr ⟨by rfl, rfl⟩) hH2 ?_
      simp only [Act.put, List.getElem_toArray, List.getElem_cons_zero, List.getElem_cons_succ, List.setIfInBounds_toArray, List.set_cons_zero, List.set_cons_succ]
      refine wpAnyH_take (i := 24) (oi := _) (v := undef) rfl (by kernel_rfl) (by kernel_rfl) (by kernel_rfl) (fun _ _ _ h => h) (Or.inr ⟨by rfl, rfl⟩) hH2 ?_
      simp only [Act.put, List.getElem_toArray, List.getElem_cons_zero, List.getElem_cons_succ, List.setIfInBounds_toArray, List.set_cons_zero, List.set_cons_succ]
      refine wpAnyH_take (i := 25) (oi := _) (v := undef) rfl (by kernel_rfl) (by kernel_rfl) (by kernel_rfl) (fun _ _ _ h => h) (Or.inr ⟨by rfl, rfl⟩) hH2 ?_
      simp only [Act.put, List.getElem_toArray, List.getElem_cons_zero, List.getElem_cons_succ, List.setIfInBounds_toArray, List.set_cons_zero, List.set_cons_succ]
      refine wpAnyH_take (i := 26) (oi := _) (v := undef) rfl (by kernel_rfl) (by kernel_rfl) (by kernel_rfl) (fun _ _ _ h => h) (Or.inr ⟨by rfl, rfl⟩) hH2 ?_
      simp only [Act.put, List.getElem_toArray, List.getElem_cons_zero, List.getElem_cons_succ, List.setIfInBounds_toArray, List.set_cons_zero, List.set_cons_succ]
      refine wpAnyH_take (i := 27) (oi := _) (v := undef) rfl (by kernel_rfl) (by kernel_rfl) (by kernel_rfl) (fun _ _ _ h => h) (Or.inr ⟨by rfl, rfl⟩) hH2 ?_
      simp only [Act.put, List.getElem_toArray, List.getElem_cons_zero, List.getElem_cons_succ, List.setIfInBounds_toArray, List.set_cons_zero, List.set_cons_succ]
      refine wpAnyH_take (i := 28) (oi := _) (v := undef) rfl (by kernel_rfl) (by kernel_rfl) (by kernel_rfl) (fun _ _ _ h => h) (Or.inr ⟨by rfl, rfl⟩) hH2 ?_
      simp only [Act.put, List.getElem_toArray, List.getElem_cons_zero, List.getElem_cons_succ, List.setIfInBounds_toArray, List.set_cons_zero, List.set_cons_succ]
      refine wpAnyH_take (i := 29) (oi := _) (v := .bool false) rfl (by kernel_rfl) (by kernel_rfl) (by kernel_rfl) (fun _ _ _ h => h) (Or.inl ⟨by rfl, fun w' hSw => by obtain ⟨z0, z1, z2, z3, z4, z5⟩ := hSw; go_simp⟩) hH2 ?_
      simp only [Act.put, List.getElem_toArray, List.getElem_cons_zero, List.getElem_cons_succ, List.setIfInBounds_toArray, List.set_cons_zero, List.set_cons_succ]
      refine wpAnyH_take (i := 30) (oi := _) (v := .bool false) rfl (by kernel_rfl) (by kernel_rfl) (by kernel_rfl) (fun _ _ _ h => h) (Or.inl ⟨by rfl, fun w' hSw => by obtain ⟨z0, z1, z2, z3, z4, z5⟩ := hSw; go_simp⟩) hH2 ?_
      simp only [Act.put, List.getElem_toArray, List.getElem_cons_zero, List.getElem_cons_succ, List.setIfInBounds_toArray, List.set_cons_zero, List.set_cons_succ]
      refine wpAnyH_done (by kernel_rfl) ?_ _
      go_wp2
      go_ret
      exact ⟨by simp [*], by first | exact bW | exact bW.drew⟩
    · by_cases q1 : o1 ≤ 0
      · have q1' : decide (o1 ≤ 0) = true := decide_eq_true q1
        by_cases q2 : o2 ≤ 0
        · have q2' : decide (o2 ≤ 0) = true := decide_eq_true q2
          go_enter Tryz.func147, Tryz.ntmps147
          go_wp2_with fail
          obtain ⟨W, hW⟩ : ∃ W, ((w.alloc (.cells #[.int .u64 L.least, .int .u64 L.most, .int .i64 L.past, .func (.func L.ko) #[] L.co, .func (.func L.kp) #[] L.cp, .func (.func L.k1) #[] L.c1, .func (.func L.kv) #[] L.cv, .func (.func L.kn) #[] L.cn, .func (.func L.ku) #[] L.cu, .func (.func L.kt) #[] L.ct, .func (.func L.kz) #[] L.cz] 134)).alloc (.cells #[.bool false, .int .u64 a, .int .u64 b] 126)) = W := ⟨_, rfl⟩
          have l0 : W.cell? ⟨w.heap.size, 0, none⟩ = some (.int .u64 L.least) := by rw [← hW]; simp [go_sem]
          have l1 : W.cell? ⟨w.heap.size, 1, none⟩ = some (.int .u64 L.most) := by rw [← hW]; simp [go_sem]
          have l2 : W.cell? ⟨w.heap.size, 2, none⟩ = some (.int .i64 L.past) := by rw [← hW]; simp [go_sem]
          have l3 : W.cell? ⟨w.heap.size, 3, none⟩ = some (.func (.func L.ko) #[] L.co) := by rw [← hW]; simp [go_sem]
          have l4 : W.cell? ⟨w.heap.size, 4, none⟩ = some (.func (.func L.kp) #[] L.cp) := by rw [← hW]; simp [go_sem]
          have l5 : W.cell? ⟨w.heap.size, 5, none⟩ = some (.func (.func L.k1) #[] L.c1) := by rw [← hW]; simp [go_sem]
          have l6 : W.cell? ⟨w.heap.size, 6, none⟩ = some (.func (.func L.kv) #[] L.cv) := by rw [← hW]; simp [go_sem]
          have l7 : W.cell? ⟨w.heap.size, 7, none⟩ = some (.func (.func L.kn) #[] L.cn) := by rw [← hW]; simp [go_sem]
          have l8 : W.cell? ⟨w.heap.size, 8, none⟩ = some (.func (.func L.ku) #[] L.cu) := by rw [← hW]; simp [go_sem]
          have l9 : W.cell? ⟨w.heap.size, 9, none⟩ = some (.func (.func L.kt) #[] L.ct) := by rw [← hW]; simp [go_sem]
          have l10 : W.cell? ⟨w.heap.size, 10, none⟩ = some (.func (.func L.kz) #[] L.cz) := by rw [← hW]; simp [go_sem]
          have a0 : W.cell? ⟨w.heap.size + 1, 0, none⟩ = some (.bool false) := by rw [← hW]; simp [go_sem]
          have a1 : W.cell? ⟨w.heap.size + 1, 1, none⟩ = some (.int .u64 a) := by rw [← hW]; simp [go_sem]
          have a2 : W.cell? ⟨w.heap.size + 1, 2, none⟩ = some (.int .u64 b) := by rw [← hW]; simp [go_sem]
          have okW : Below B w0 W := by rw [← hW]; exact (ok_new hB (ok_new hB ok _) _)
          have bW : Below w.heap.size w W := by rw [← hW]; exact (sp_new (sp_new (Below.refl _ _) _) _)
          have zW : W.heap.size = w.heap.size + 2 := by rw [← hW]; simp
          rw [hW]
          clear hW
          refine wp_region_held_drew (S := (fun w' => w'.cell? ⟨w.heap.size, 3, none⟩ = some (.func (.func L.ko) #[] L.co) ∧ w'.cell? ⟨w.heap.size, 4, none⟩ = some (.func (.func L.kp) #[] L.cp) ∧ w'.cell? ⟨w.heap.size, 5, none⟩ = some (.func (.func L.k1) #[] L.c1) ∧ w'.cell? ⟨w.heap.size + 1, 0, none⟩ = some (.bool false) ∧ w'.cell? ⟨w.heap.size + 1, 1, none⟩ = some (.int .u64 a) ∧ w'.cell? ⟨w.heap.size + 1, 2, none⟩ = some (.int .u64 b))) (by kernel_rfl) ⟨l3, l4, l5, a0, a1, a2⟩ (fun hH0 => ?_)
          refine wpAnyH_take (i := 0) (oi := _) (v := .pointer (some ⟨w.heap.size + 1, 0, none⟩)) rfl (by kernel_rfl) (by kernel_rfl) (by kernel_rfl) (fun _ _ _ h => h) (Or.inl ⟨by rfl, fun w' hSw => by obtain ⟨z0, z1, z2, z3, z4, z5⟩ := hSw; go_simp⟩) hH0 ?_
          simp only [Act.put, List.getElem_toArray, List.getElem_cons_zero, List.getElem_cons_succ, List.setIfInBounds_toArray, List.set_cons_zero, List.set_cons_succ]
          refine wpAnyH_take (i := 1) (oi := _) (v := .bool false) rfl (by kernel_rfl) (by kernel_rfl) (by kernel_rfl) (fun _ _ _ h => h) (Or.inl ⟨by rfl, fun w' hSw => by obtain ⟨z0, z1, z2, z3, z4, z5⟩ := hSw; go_simp⟩) hH0 ?_
          simp only [Act.put, List.getElem_toArray, List.getElem_cons_zero, List.getElem_cons_succ, List.setIfInBounds_toArray, List.set_cons_zero, List.set_cons_succ]
          refine wpAnyH_take (i := 2) (oi := _) (v := .bool true) rfl (by kernel_rfl) (by kernel_rfl) (by kernel_rfl) (fun _ _ _ h => h) (Or.inl ⟨by rfl, fun w' hSw => by obtain ⟨z0, z1, z2, z3, z4, z5⟩ := hSw; go_simp⟩) hH0 ?_
          simp only [Act.put, List.getElem_toArray, List.getElem_cons_zero, List.getElem_cons_succ, List.setIfInBounds_toArray, List.set_cons_zero, List.set_cons_succ]
          refine wpAnyH_take (i := 3) (oi := _) (v := .bool true) rfl (by kernel_rfl) (by kernel_rfl) (by kernel_rfl) (fun _ _ _ h => h) (Or.inl ⟨by rfl, fun w' hSw => by obtain ⟨z0, z1, z2, z3, z4, z5⟩ := hSw; go_simp⟩) hH0 ?_
          simp only [Act.put, List.getElem_toArray, List.getElem_cons_zero, List.getElem_cons_succ, List.setIfInBounds_toArray, List.set_cons_zero, List.set_cons_succ]
          refine wpAnyH_take (i := 4) (oi := _) (v := .pointer (some ⟨w.heap.size, 5, none⟩)) rfl (by kernel_rfl) (by kernel_rfl) (by kernel_rfl) (fun _ _ _ h => h) (Or.inl ⟨by rfl, fun w' hSw => by obtain ⟨z0, z1, z2, z3, z4, z5⟩ := hSw; go_simp⟩) hH0 ?_
          simp only [Act.put, List.getElem_toArray, List.getElem_cons_zero, List.getElem_cons_succ, List.setIfInBounds_toArray, List.set_cons_zero, List.set_cons_succ]
          refine wpAnyH_take (i := 5) (oi := _) (v := .func (.func L.k1) #[] L.c1) rfl (by kernel_rfl) (by kernel_rfl) (by kernel_rfl) (fun _ _ _ h => h) (Or.inl ⟨by rfl, fun w' hSw => by obtain ⟨z0, z1, z2, z3, z4, z5⟩ := hSw; go_simp⟩) hH0 ?_
          simp only [Act.put, List.getElem_toArray, List.getElem_cons_zero, List.getElem_cons_succ, List.setIfInBounds_toArray, List.set_cons_zero, List.set_cons_succ]
          refine wpAnyH_take (i := 6) (oi := _) (v := .pointer (some ⟨w.heap.size, 4, none⟩)) rfl (by kernel_rfl) (by kernel_rfl) (by kernel_rfl) (fun _ _ _ h => h) (Or.inl ⟨by rfl, fun w' hSw => by obtain ⟨z0, z1, z2, z3, z4, z5⟩ := hSw; go_simp⟩) hH0 ?_
          simp only [Act.put, List.getElem_toArray, List.getElem_cons_zero, List.getElem_cons_succ, List.setIfInBounds_toArray, List.set_cons_zero, List.set_cons_succ]
          refine wpAnyH_take (i := 7) (oi := _) (v := .func (.func L.kp) #[] L.cp) rfl (by kernel_rfl) (by kernel_rfl) (by kernel_rfl) (fun _ _ _ h => h) (Or.inl ⟨by rfl, fun w' hSw => by obtain ⟨z0, z1, z2, z3, z4, z5⟩ := hSw; go_simp⟩) hH0 ?_
          simp only [Act.put, List.getElem_toArray, List.getElem_cons_zero, List.getElem_cons_succ, List.setIfInBounds_toArray, List.set_cons_zero, List.set_cons_succ]
          refine wpAnyH_take (i := 8) (oi := _) (v := .int .u64 x) rfl (by kernel_rfl) (by kernel_rfl) (by kernel_rfl) (fun _ _ _ h => h) (Or.inl ⟨by rfl, fun w' hSw => by obtain ⟨z0, z1, z2, z3, z4, z5⟩ := hSw; go_simp⟩) hH0 ?_
          simp only [Act.put, List.getElem_toArray, List.getElem_cons_zero, List.getElem_cons_succ, List.setIfInBounds_toArray, List.set_cons_zero, List.set_cons_succ]
          refine wpAnyH_ready (rs := [9]) (by kernel_rfl) (by simp) (AllReadyH.cons (o := _) rfl (fun K hK => ?_) AllReadyH.nil)
          go_simp
          refine (h1 _ (by first | exact okW | exact okW.drew)).mono ?_
          rintro e v1 ⟨rfl, g1⟩
          replace g1 : Below W.heap.size W v1 := ⟨g1.os, g1.tape, g1.output, g1.size, g1.block⟩
          replace l3 := sO g1 l3; replace l4 := sO g1 l4; replace l5 := sO g1 l5; replace a0 := sO g1 a0; replace a1 := sO g1 a1; replace a2 := sO g1 a2
          replace okW := ok_call hB okW g1
          replace bW := sp_call bW g1
          go_wp2_with fail
          refine hK.out _ _ ⟨l3, l4, l5, a0, a1, a2⟩ (fun hH1 => ?_)
          clear hK K hH0
          try simp only [Act.put, List.getElem_toArray, List.getElem_cons_zero, List.getElem_cons_succ, List.setIfInBounds_toArray, List.set_cons_zero, List.set_cons_succ]
          refine wpAnyH_ready (rs := [10]) (by kernel_rfl) (by simp) (AllReadyH.cons (o := _) rfl (fun K hK => ?_) AllReadyH.nil)
          go_simp
          refine (h2 _ (by first | exact okW | exact okW.drew)).mono ?_
          rintro e v2 ⟨rfl, g2⟩
          replace g2 : Below v1.heap.size v1 v2 := ⟨g2.os, g2.tape, g2.output, g2.size, g2.block⟩
          replace l3 := sO g2 l3; replace l4 := sO g2 l4; replace l5 := sO g2 l5; replace a0 := sO g2 a0; replace a1 := sO g2 a1; replace a2 := sO g2 a2
          replace okW := ok_call hB okW g2
          replace bW := sp_call bW g2
          go_wp2_with fail
          refine hK.out _ _ ⟨l3, l4, l5, a0, a1, a2⟩ (fun hH2 => ?_)
          clear hK K hH1
          try simp only [Act.put, List.getElem_toArray, List.getElem_cons_zero, List.getElem_cons_succ, List.setIfInBounds_toArray, List.set_cons_zero, List.set_cons_succ]
          refine wpAnyH_take (i := 11) (oi := _) (v := .bool true) rfl (by kernel_rfl) (by kernel_rfl) (by kernel_rfl) (fun _ _ _ h => h) (Or.inl ⟨by rfl, fun w' hSw => by obtain ⟨z0, z1, z2, z3, z4, z5⟩ := hSw; go_simp⟩) hH2 ?_
          simp only [Act.put, List.getElem_toArray, List.getElem_cons_zero, List.getElem_cons_succ, List.setIfInBounds_toArray, List.set_cons_zero, List.set_cons_succ]
          refine wpAnyH_take (i := 12) (oi := _) (v := .bool true) rfl (by kernel_rfl) (by kernel_rfl) (by kernel_rfl) (fun _ _ _ h => h) (Or.inl ⟨by rfl, fun w' hSw => by obtain ⟨z0, z1, z2, z3, z4, z5⟩ := hSw; go_simp⟩) hH2 ?_
          simp only [Act.put, List.getElem_toArray, List.getElem_cons_zero, List.getElem_cons_succ, List.setIfInBounds_toArray, List.set_cons_zero, List.set_cons_succ]
          refine wpAnyH_take (i := 13) (oi := _) (v := .pointer (some ⟨w.heap.size, 3, none⟩)) rfl (by kernel_rfl) (by kernel_rfl) (by kernel_rfl) (fun _ _ _ h => h) (Or.inl ⟨by rfl, fun w' hSw => by obtain ⟨z0, z1, z2, z3, z4, z5⟩ := hSw; go_simp⟩) hH2 ?_
          simp only [Act.put, List.getElem_toArray, List.getElem_cons_zero, List.getElem_cons_succ, List.setIfInBounds_toArray, List.set_cons_zero, List.set_cons_succ]
          refine wpAnyH_take (i := 14) (oi := _) (v := .func (.func L.ko) #[] L.co) rfl (by kernel_rfl) (by kernel_rfl) (by kernel_rfl) (fun _ _ _ h => h) (Or.inl ⟨by rfl, fun w' hSw => by obtain ⟨z0, z1, z2, z3, z4, z5⟩ := hSw; go_simp⟩) hH2 ?_
          simp only [Act.put, List.getElem_toArray, List.getElem_cons_zero, List.getElem_cons_succ, List.setIfInBounds_toArray, List.set_cons_zero, List.set_cons_succ]
          refine wpAnyH_take (i := 15) (oi := _) (v := .pointer (some ⟨w.heap.size + 1, 1, none⟩)) rfl (by kernel_rfl) (by kernel_rfl) (by kernel_rfl) (fun _ _ _ h => h) (Or.inl ⟨by rfl, fun w' hSw => by obtain ⟨z0, z1, z2, z3, z4, z5⟩ := hSw; go_simp⟩) hH2 ?_
          simp only [Act.put, List.getElem_toArray, List.getElem_cons_zero, List.getElem_cons_succ, List.setIfInBounds_toArray, List.set_cons_zero, List.set_cons_succ]
          refine wpAnyH_take (i := 16) (oi := _) (v := .int .u64 a) rfl (by kernel_rfl) (by kernel_rfl) (by kernel_rfl) (fun _ _ _ h => h) (Or.inl ⟨by rfl, fun w' hSw => by obtain ⟨z0, z1, z2, z3, z4, z5⟩ := hSw; go_simp⟩) hH2 ?_
          simp only [Act.put, List.getElem_toArray, List.getElem_cons_zero, List.getElem_cons_succ, List.setIfInBounds_toArray, List.set_cons_zero, List.set_cons_succ]
          refine wpAnyH_take (i := 17) (oi := _) (v := .int .u64 x) rfl (by kernel_rfl) (by kernel_rfl) (by kernel_rfl) (fun _ _ _ h => h) (Or.inl ⟨by rfl, fun w' hSw => by obtain ⟨z0, z1, z2, z3, z4, z5⟩ := hSw; go_simp⟩) hH2 ?_
          simp only [Act.put, List.getElem_toArray, List.getElem_cons_zero, List.getElem_cons_succ, List.setIfInBounds_toArray, List.set_cons_zero, List.set_cons_succ]
          refine wpAnyH_ready (rs := [18]) (by kernel_rfl) (by simp) (AllReadyH.cons (o := _) rfl (fun K hK => ?_) AllReadyH.nil)
          go_simp
          refine (h3 _ (by first | exact okW | exact okW.drew)).mono ?_
          rintro e v3 ⟨rfl, g3⟩
          replace g3 : Below v2.heap.size v2 v3 := ⟨g3.os, g3.tape, g3.output, g3.size, g3.block⟩
          replace l3 := sO g3 l3; replace l4 := sO g3 l4; replace l5 := sO g3 l5; replace a0 := sO g3 a0; replace a1 := sO g3 a1; replace a2 := sO g3 a2
          replace okW := ok_call hB okW g3
          replace bW := sp_call bW g3
          go_wp2_with fail
          refine hK.out _ _ ⟨l3, l4, l5, a0, a1, a2⟩ (fun hH3 => ?_)
          clear hK K hH2
          try simp only [Act.put, List.getElem_toArray, List.getElem_cons_zero, List.getElem_cons_succ, List.setIfInBounds_toArray, List.set_cons_zero, List.set_cons_succ]
          refine wpAnyH_take (i := 19) (oi := _) (v := .bool true) rfl (by kernel_rfl) (by kernel_rfl) (by kernel_rfl) (fun _ _ _ h => h) (Or.inl ⟨by rfl, fun w' hSw => by obtain ⟨z0, z1, z2, z3, z4, z5⟩ := hSw; go_simp⟩) hH3 ?_
          simp only [Act.put, List.getElem_toArray, List.getElem_cons_zero, List.getElem_cons_succ, List.setIfInBounds_toArray, List.set_cons_zero, List.set_cons_succ]
          refine wpAnyH_take (i := 20) (oi := _) (v := .bool true) rfl (by kernel_rfl) (by kernel_rfl) (by kernel_rfl) (fun _ _ _ h => h) (Or.inl ⟨by rfl, fun w' hSw => by obtain ⟨z0, z1, z2, z3, z4, z5⟩ := hSw; go_simp⟩) hH3 ?_
          simp only [Act.put, List.getElem_toArray, List.getElem_cons_zero, List.getElem_cons_succ, List.setIfInBounds_toArray, List.set_cons_zero, List.set_cons_succ]
          refine wpAnyH_take (i := 21) (oi := _) (v := .bool true) rfl (by kernel_rfl) (by kernel_rfl) (by kernel_rfl) (fun _ _ _ h => h) (Or.inl ⟨by rfl, fun w' hSw => by obtain ⟨z0, z1, z2, z3, z4, z5⟩ := hSw; go_simp⟩) hH3 ?_
          simp only [Act.put, List.getElem_toArray, List.getElem_cons_zero, List.getElem_cons_succ, List.setIfInBounds_toArray, List.set_cons_zero, List.set_cons_succ]
          refine wpAnyH_take (i := 22) (oi := _) (v := .pointer (some ⟨w.heap.size, 3, none⟩)) rfl (by kernel_rfl) (by kernel_rfl) (by kernel_rfl) (fun _ _ _ h => h) (Or.inl ⟨by rfl, fun w' hSw => by obtain ⟨z0, z1, z2, z3, z4, z5⟩ := hSw; go_simp⟩) hH3 ?_
          simp only [Act.put, List.getElem_toArray, List.getElem_cons_zero, List.getElem_cons_succ, List.setIfInBounds_toArray, List.set_cons_zero, List.set_cons_succ]
          refine wpAnyH_take (i := 23) (oi := _) (v := .func (.func L.ko) #[] L.co) rfl (by kernel_rfl) (by kernel_rfl) (by kernel_rfl) (fun _ _ _ h => h) (Or.inl ⟨by rfl, fun w' hSw => by obtain ⟨z0, z1, z2, z3, z4, z5⟩ := hSw; go_simp⟩) hH3 ?_
          simp only [Act.put, List.getElem_toArray, List.getElem_cons_zero, List.getElem_cons_succ, List.setIfInBounds_toArray, List.set_cons_zero, List.set_cons_succ]
          refine wpAnyH_take (i := 24) (oi := _) (v := .int .u64 x) rfl (by kernel_rfl) (by kernel_rfl) (by kernel_rfl) (fun _ _ _ h => h) (Or.inl ⟨by rfl, fun w' hSw => by obtain ⟨z0, z1, z2, z3, z4, z5⟩ := hSw; go_simp⟩) hH3 ?_
          simp only [Act.put, List.getElem_toArray, List.getElem_cons_zero, List.getElem_cons_succ, List.setIfInBounds_toArray, List.set_cons_zero, List.set_cons_succ]
          refine wpAnyH_take (i := 25) (oi := _) (v := .pointer (some ⟨w.heap.size + 1, 2, none⟩)) rfl (by kernel_rfl) (by kernel_rfl) (by kernel_rfl) (fun _ _ _ h => h) (Or.inl ⟨by rfl, fun w' hSw => by obtain ⟨z0, z1, z2, z3, z4, z5⟩ := hSw; go_simp⟩) hH3 ?_
          simp only [Act.put, List.getElem_toArray, List.getElem_cons_zero, List.getElem_cons_succ, List.setIfInBounds_toArray, List.set_cons_zero, List.set_cons_succ]
          refine wpAnyH_take (i := 26) (oi := _) (v := .int .u64 b) rfl (by kernel_rfl) (by kernel_rfl) (by kernel_rfl) (fun _ _ _ h => h) (Or.inl ⟨by rfl, fun w' hSw => by obtain ⟨z0, z1, z2, z3, z4, z5⟩ := hSw; go_simp⟩) hH3 ?_
          simp only [Act.put, List.getElem_toArray, List.getElem_cons_zero, List.getElem_cons_succ, List.setIfInBounds_toArray, List.set_cons_zero, List.set_cons_succ]
          refine wpAnyH_ready (rs := [27]) (by kernel_rfl) (by simp) (AllReadyH.cons (o := _) rfl (fun K hK => ?_) AllReadyH.nil)
          go_simp
          refine (h4 _ (by first | exact okW | exact okW.drew)).mono ?_
          rintro e v4 ⟨rfl, g4⟩
          replace g4 : Below v3.heap.size v3 v4 := ⟨g4.os, g4.tape, g4.output, g4.size, g4.block⟩
          replace l3 := sO g4 l3; replace l4 := sO g4 l4; replace l5 := sO g4 l5; replace a0 := sO g4 a0; replace a1 := sO g4 a1; replace a2 := sO g4 a2
          replace okW := ok_call hB okW g4
          replace bW := sp_call bW g4
          go_wp2_with fail
          refine hK.out _ _ ⟨l3, l4, l5, a0, a1, a2⟩ (fun hH4 => ?_)
          clear hK K hH3
          try simp only [Act.put, List.getElem_toArray, List.getElem_cons_zero, List.getElem_cons_succ, List.setIfInBounds_toArray, List.set_cons_zero, List.set_cons_succ]
          refine wpAnyH_take (i := 28) (oi := _) (v := .bool true) rfl (by kernel_rfl) (by kernel_rfl) (by kernel_rfl) (fun _ _ _ h => h) (Or.inl ⟨by rfl, fun w' hSw => by obtain ⟨z0, z1, z2, z3, z4, z5⟩ := hSw; go_simp⟩) hH4 ?_
          simp only [Act.put, List.getElem_toArray, List.getElem_cons_zero, List.getElem_cons_succ, List.setIfInBounds_toArray, List.set_cons_zero, List.set_cons_succ]
          refine wpAnyH_take (i := 29) (oi := _) (v := .bool true) rfl (by kernel_rfl) (by kernel_rfl) (by kernel_rfl) (fun _ _ _ h => h) (Or.inl ⟨by rfl, fun w' hSw => by obtain ⟨z0, z1, z2, z3, z4, z5⟩ := hSw; go_simp⟩) hH4 ?_
          simp only [Act.put, List.getElem_toArray, List.getElem_cons_zero, List.getElem_cons_succ, List.setIfInBounds_toArray, List.set_cons_zero, List.set_cons_succ]
          refine wpAnyH_take (i := 30) (oi := _) (v := .bool true) rfl (by kernel_rfl) (by kernel_rfl) (by kernel_rfl) (fun _ _ _ h => h) (Or.inl ⟨by rfl, fun w' hSw => by obtain ⟨z0, z1, z2, z3, z4, z5⟩ := hSw; go_simp⟩) hH4 ?_
          simp only [Act.put, List.getElem_toArray, List.getElem_cons_zero, List.getElem_cons_succ, List.setIfInBounds_toArray, List.set_cons_zero, List.set_cons_succ]
          refine wpAnyH_done (by kernel_rfl) ?_ _
          go_wp2
          go_ret
          exact ⟨by simp [*], by first | exact bW | exact bW.drew⟩
        · have q2' : decide (o2 ≤ 0) = false := decide_eq_false q2
          go_enter Tryz.func147, Tryz.ntmps147
          go_wp2_with fail
          obtain ⟨W, hW⟩ : ∃ W, ((w.alloc (.cells #[.int .u64 L.least, .int .u64 L.most, .int .i64 L.past, .func (.func L.ko) #[] L.co, .func (.func L.kp) #[] L.cp, .func (.func L.k1) #[] L.c1, .func (.func L.kv) #[] L.cv, .func (.func L.kn) #[] L.cn, .func (.func L.ku) #[] L.cu, .func (.func L.kt) #[] L.ct, .func (.func L.kz) #[] L.cz] 134)).alloc (.cells #[.bool false, .int .u64 a, .int .u64 b] 126)) = W := ⟨_, rfl⟩
          have l0 : W.cell? ⟨w.heap.size, 0, none⟩ = some (.int .u64 L.least) := by rw [← hW]; simp [go_sem]
          have l1 : W.cell? ⟨w.heap.size, 1, none⟩ = some (.int .u64 L.most) := by rw [← hW]; simp [go_sem]
          have l2 : W.cell? ⟨w.heap.size, 2, none⟩ = some (.int .i64 L.past) := by rw [← hW]; simp [go_sem]
          have l3 : W.cell? ⟨w.heap.size, 3, none⟩ = some (.func (.func L.ko) #[] L.co) := by rw [← hW]; simp [go_sem]
          have l4 : W.cell? ⟨w.heap.size, 4, none⟩ = some (.func (.func L.kp) #[] L.cp) := by rw [← hW]; simp [go_sem]
          have l5 : W.cell? ⟨w.heap.size, 5, none⟩ = some (.func (.func L.k1) #[] L.c1) := by rw [← hW]; simp [go_sem]
          have l6 : W.cell? ⟨w.heap.size, 6, none⟩ = some (.func (.func L.kv) #[] L.cv) := by rw [← hW]; simp [go_sem]
          have l7 : W.cell? ⟨w.heap.size, 7, none⟩ = some (.func (.func L.kn) #[] L.cn) := by rw [← hW]; simp [go_sem]
          have l8 : W.cell? ⟨w.heap.size, 8, none⟩ = some (.func (.func L.ku) #[] L.cu) := by rw [← hW]; simp [go_sem]
          have l9 : W.cell? ⟨w.heap.size, 9, none⟩ = some (.func (.func L.kt) #[] L.ct) := by rw [← hW]; simp [go_sem]
          have l10 : W.cell? ⟨w.heap.size, 10, none⟩ = some (.func (.func L.kz) #[] L.cz) := by rw [← hW]; simp [go_sem]
          have a0 : W.cell? ⟨w.heap.size + 1, 0, none⟩ = some (.bool false) := by rw [← hW]; simp [go_sem]
          have a1 : W.cell? ⟨w.heap.size + 1, 1, none⟩ = some (.int .u64 a) := by rw [← hW]; simp [go_sem]
          have a2 : W.cell? ⟨w.heap.size + 1, 2, none⟩ = some (.int .u64 b) := by rw [← hW]; simp [go_sem]
          have okW : Below B w0 W := by rw [← hW]; exact (ok_new hB (ok_new hB ok _) _)
          have bW : Below w.heap.size w W := by rw [← hW]; exact (sp_new (sp_new (Below.refl _ _) _) _)
          have zW : W.heap.size = w.heap.size + 2 := by rw [← hW]; simp
          rw [hW]
          clear hW
          refine wp_region_held_drew (S := (fun w' => w'.cell? ⟨w.heap.size, 3, none⟩ = some (.func (.func L.ko) #[] L.co) ∧ w'.cell? ⟨w.heap.size, 4, none⟩ = some (.func (.func L.kp) #[] L.cp) ∧ w'.cell? ⟨w.heap.size, 5, none⟩ = some (.func (.func L.k1) #[] L.c1) ∧ w'.cell? ⟨w.heap.size + 1, 0, none⟩ = some (.bool false) ∧ w'.cell? ⟨w.heap.size + 1, 1, none⟩ = some (.int .u64 a) ∧ w'.cell? ⟨w.heap.size + 1, 2, none⟩ = some (.int .u64 b))) (by kernel_rfl) ⟨l3, l4, l5, a0, a1, a2⟩ (fun hH0 => ?_)
          refine wpAnyH_take (i := 0) (oi := _) (v := .pointer (some ⟨w.heap.size + 1, 0, none⟩)) rfl (by kernel_rfl) (by kernel_rfl) (by kernel_rfl) (fun _ _ _ h => h) (Or.inl ⟨by rfl, fun w' hSw => by obtain ⟨z0, z1, z2, z3, z4, z5⟩ := hSw; go_simp⟩) hH0 ?_
          simp only [Act.put, List.getElem_toArray, List.getElem_cons_zero, List.getElem_cons_succ, List.setIfInBounds_toArray, List.set_cons_zero, List.set_cons_succ]
          refine wpAnyH_take (i := 1) (oi := _) (v := .bool false) rfl (by kernel_rfl) (by kernel_rfl) (by kernel_rfl) (fun _ _ _ h => h) (Or.inl ⟨by rfl, fun w' hSw => by obtain ⟨z0, z1, z2, z3, z4, z5⟩ := hSw; go_simp⟩) hH0 ?_
          simp only [Act.put, List.getElem_toArray, List.getElem_cons_zero, List.getElem_cons_succ, List.setIfInBounds_toArray, List.set_cons_zero, List.set_cons_succ]
          refine wpAnyH_take (i := 2) (oi := _) (v := .bool true) rfl (by kernel_rfl) (by kernel_rfl) (by kernel_rfl) (fun _ _ _ h => h) (Or.inl ⟨by rfl, fun w' hSw => by obtain ⟨z0, z1, z2, z3, z4, z5⟩ := hSw; go_simp⟩) hH0 ?_
          simp only [Act.put, List.getElem_toArray, List.getElem_cons_zero, List.getElem_cons_succ, List.setIfInBounds_toArray, List.set_cons_zero, List.set_cons_succ]
          refine wpAnyH_take (i := 3) (oi := _) (v := .bool true) rfl (by kernel_rfl) (by kernel_rfl) (by kernel_rfl) (fun _ _ _ h => h) (Or.inl ⟨by rfl, fun w' hSw => by obtain ⟨z0, z1, z2, z3, z4, z5⟩ := hSw; go_simp⟩) hH0 ?_
          simp only [Act.put, List.getElem_toArray, List.getElem_cons_zero, List.getElem_cons_succ, List.setIfInBounds_toArray, List.set_cons_zero, List.set_cons_succ]
          refine wpAnyH_take (i := 4) (oi := _) (v := .pointer (some ⟨w.heap.size, 5, none⟩)) rfl (by kernel_rfl) (by kernel_rfl) (by kernel_rfl) (fun _ _ _ h => h) (Or.inl ⟨by rfl, fun w' hSw => by obtain ⟨z0, z1, z2, z3, z4, z5⟩ := hSw; go_simp⟩) hH0 ?_
          simp only [Act.put, List.getElem_toArray, List.getElem_cons_zero, List.getElem_cons_succ, List.setIfInBounds_toArray, List.set_cons_zero, List.set_cons_succ]
          refine wpAnyH_take (i := 5) (oi := _) (v := .func (.func L.k1) #[] L.c1) rfl (by kernel_rfl) (by kernel_rfl) (by kernel_rfl) (fun _ _ _ h => h) (Or.inl ⟨by rfl, fun w' hSw => by obtain ⟨z0, z1, z2, z3, z4, z5⟩ := hSw; go_simp⟩) hH0 ?_
          simp only [Act.put, List.getElem_toArray, List.getElem_cons_zero, List.getElem_cons_succ, List.setIfInBounds_toArray, List.set_cons_zero, List.set_cons_succ]
          refine wpAnyH_take (i := 6) (oi := _) (v := .pointer (some ⟨w.heap.size, 4, none⟩)) rfl (by kernel_rfl) (by kernel_rfl) (by kernel_rfl) (fun _ _ _ h => h) (Or.inl ⟨by rfl, fun w' hSw => by obtain ⟨z0, z1, z2, z3, z4, z5⟩ := hSw; go_simp⟩) hH0 ?_
          simp only [Act.put, List.getElem_toArray, List.getElem_cons_zero, List.getElem_cons_succ, List.setIfInBounds_toArray, List.set_cons_zero, List.set_cons_succ]
          refine wpAnyH_take (i := 7) (oi := _) (v := .func (.func L.kp) #[] L.cp) rfl (by kernel_rfl) (by kernel_rfl) (by kernel_rfl) (fun _ _ _ h => h) (Or.inl ⟨by rfl, fun w' hSw => by obtain ⟨z0, z1, z2, z3, z4, z5⟩ := hSw; go_simp⟩) hH0 ?_
          simp only [Act.put, List.getElem_toArray, List.getElem_cons_zero, List.getElem_cons_succ, List.setIfInBounds_toArray, List.set_cons_zero, List.set_cons_succ]
          refine wpAnyH_take (i := 8) (oi := _) (v := .int .u64 x) rfl (by kernel_rfl) (by kernel_rfl) (by kernel_rfl) (fun _ _ _ h => h) (Or.inl ⟨by rfl, fun w' hSw => by obtain ⟨z0, z1, z2, z3, z4, z5⟩ := hSw; go_simp⟩) hH0 ?_
          simp only [Act.put, List.getElem_toArray, List.getElem_cons_zero, List.getElem_cons_succ, List.setIfInBounds_toArray, List.set_cons_zero, List.set_cons_succ]
          refine wpAnyH_ready (rs := [9]) (by kernel_rfl) (by simp) (AllReadyH.cons (o := _) rfl (fun K hK => ?_) AllReadyH.nil)
          go_simp
          refine (h1 _ (by first | exact okW | exact okW.drew)).mono ?_
          rintro e v1 ⟨rfl, g1⟩
          replace g1 : Below W.heap.size W v1 := ⟨g1.os, g1.tape, g1.output, g1.size, g1.block⟩
          replace l3 := sO g1 l3; replace l4 := sO g1 l4; replace l5 := sO g1 l5; replace a0 := sO g1 a0; replace a1 := sO g1 a1; replace a2 := sO g1 a2
          replace okW := ok_call hB okW g1
          replace bW := sp_call bW g1
          go_wp2_with fail
          refine hK.out _ _ ⟨l3, l4, l5, a0, a1, a2⟩ (fun hH1 => ?_)
          clear hK K hH0
          try simp only [Act.put, List.getElem_toArray, List.getElem_cons_zero, List.getElem_cons_succ, List.setIfInBounds_toArray, List.set_cons_zero, List.set_cons_succ]
          refine wpAnyH_ready (rs := [10]) (by kernel_rfl) (by simp) (AllReadyH.cons (o := _) rfl (fun K hK => ?_) AllReadyH.nil)
          go_simp
          refine (h2 _ (by first | exact okW | exact okW.drew)).mono ?_
          rintro e v2 ⟨rfl, g2⟩
          replace g2 : Below v1.heap.size v1 v2 := ⟨g2.os, g2.tape, g2.output, g2.size, g2.block⟩
          replace l3 := sO g2 l3; replace l4 := sO g2 l4; replace l5 := sO g2 l5; replace a0 := sO g2 a0; replace a1 := sO g2 a1; replace a2 := sO g2 a2
          replace okW := ok_call hB okW g2
          replace bW := sp_call bW g2
          go_wp2_with fail
          refine hK.out _ _ ⟨l3, l4, l5, a0, a1, a2⟩ (fun hH2 => ?_)
          clear hK K hH1
          try simp only [Act.put, List.getElem_toArray, List.getElem_cons_zero, List.getElem_cons_succ, List.setIfInBounds_toArray, List.set_cons_zero, List.set_cons_succ]
          refine wpAnyH_take (i := 11) (oi := _) (v := .bool true) rfl (by kernel_rfl) (by kernel_rfl) (by kernel_rfl) (fun _ _ _ h => h) (Or.inl ⟨by rfl, fun w' hSw => by obtain ⟨z0, z1, z2, z3, z4, z5⟩ := hSw; go_simp⟩) hH2 ?_
          simp only [Act.put, List.getElem_toArray, List.getElem_cons_zero, List.getElem_cons_succ, List.setIfInBounds_toArray, List.set_cons_zero, List.set_cons_succ]
          refine wpAnyH_take (i := 12) (oi := _) (v := .bool true) rfl (by kernel_rfl) (by kernel_rfl) (by kernel_rfl) (fun _ _ _ h => h) (Or.inl ⟨by rfl, fun w' hSw => by obtain ⟨z0, z1, z2, z3, z4, z5⟩ := hSw; go_simp⟩) hH2 ?_
          simp only [Act.put, List.getElem_toArray, List.getElem_cons_zero, List.getElem_cons_succ, List.setIfInBounds_toArray, List.set_cons_zero, List.set_cons_succ]
          refine wpAnyH_take (i := 13) (oi := _) (v := .pointer (some ⟨w.heap.size, 3, none⟩)) rfl (by kernel_rfl) (by kernel_rfl) (by kernel_rfl) (fun _ _ _ h => h) (Or.inl ⟨by rfl, fun w' hSw => by obtain ⟨z0, z1, z2, z3, z4, z5⟩ := hSw; go_simp⟩) hH2 ?_
          simp only [Act.put, List.getElem_toArray, List.getElem_cons_zero, List.getElem_cons_succ, List.setIfInBounds_toArray, List.set_cons_zero, List.set_cons_succ]
          refine wpAnyH_take (i := 14) (oi := _) (v := .func (.func L.ko) #[] L.co) rfl (by kernel_rfl) (by kernel_rfl) (by kernel_rfl) (fun _ _ _ h => h) (Or.inl ⟨by rfl, fun w' hSw => by obtain ⟨z0, z1, z2, z3, z4, z5⟩ := hSw; go_simp⟩) hH2 ?_
          simp only [Act.put, List.getElem_toArray, List.getElem_cons_zero, List.getElem_cons_succ, List.setIfInBounds_toArray, List.set_cons_zero, List.set_cons_succ]
          refine wpAnyH_take (i := 15) (oi := _) (v := .pointer (some ⟨w.heap.size + 1, 1, none⟩)) rfl (by kernel_rfl) (by kernel_rfl) (by kernel_rfl) (fun _ _ _ h => h) (Or.inl ⟨by rfl, fun w' hSw => by obtain ⟨z0, z1, z2, z3, z4, z5⟩ := hSw; go_simp⟩) hH2 ?_
          simp only [Act.put, List.getElem_toArray, List.getElem_cons_zero, List.getElem_cons_succ, List.setIfInBounds_toArray, List.set_cons_zero, List.set_cons_succ]
          refine wpAnyH_take (i := 16) (oi := _) (v := .int .u64 a) rfl (by kernel_rfl) (by kernel_rfl) (by kernel_rfl) (fun _ _ _ h => h) (Or.inl ⟨by rfl, fun w' hSw => by obtain ⟨z0, z1, z2, z3, z4, z5⟩ := hSw; go_simp⟩) hH2 ?_
          simp only [Act.put, List.getElem_toArray, List.getElem_cons_zero, List.getElem_cons_succ, List.setIfInBounds_toArray, List.set_cons_zero, List.set_cons_succ]
          refine wpAnyH_take (i := 17) (oi := _) (v := .int .u64 x) rfl (by kernel_rfl) (by kernel_rfl) (by kernel_rfl) (fun _ _ _ h => h) (Or.inl ⟨by rfl, fun w' hSw => by obtain ⟨z0, z1, z2, z3, z4, z5⟩ := hSw; go_simp⟩) hH2 ?_
          simp only [Act.put, List.getElem_toArray, List.getElem_cons_zero, List.getElem_cons_succ, List.setIfInBounds_toArray, List.set_cons_zero, List.set_cons_succ]
          refine wpAnyH_ready (rs := [18]) (by kernel_rfl) (by simp) (AllReadyH.cons (o := _) rfl (fun K hK => ?_) AllReadyH.nil)
          go_simp
          refine (h3 _ (by first | exact okW | exact okW.drew)).mono ?_
          rintro e v3 ⟨rfl, g3⟩
          replace g3 : Below v2.heap.size v2 v3 := ⟨g3.os, g3.tape, g3.output, g3.size, g3.block⟩
          replace l3 := sO g3 l3; replace l4 := sO g3 l4; replace l5 := sO g3 l5; replace a0 := sO g3 a0; replace a1 := sO g3 a1; replace a2 := sO g3 a2
          replace okW := ok_call hB okW g3
          replace bW := sp_call bW g3
          go_wp2_with fail
          refine hK.out _ _ ⟨l3, l4, l5, a0, a1, a2⟩ (fun hH3 => ?_)
          clear hK K hH2
          try simp only [Act.put, List.getElem_toArray, List.getElem_cons_zero, List.getElem_cons_succ, List.setIfInBounds_toArray, List.set_cons_zero, List.set_cons_succ]
          refine wpAnyH_take (i := 19) (oi := _) (v := .bool true) rfl (by kernel_rfl) (by kernel_rfl) (by kernel_rfl) (fun _ _ _ h => h) (Or.inl ⟨by rfl, fun w' hSw => by obtain ⟨z0, z1, z2, z3, z4, z5⟩ := hSw; go_simp⟩) hH3 ?_
          simp only [Act.put, List.getElem_toArray, List.getElem_cons_zero, List.getElem_cons_succ, List.setIfInBounds_toArray, List.set_cons_zero, List.set_cons_succ]
          refine wpAnyH_take (i := 20) (oi := _) (v := .bool true) rfl (by kernel_rfl) (by kernel_rfl) (by kernel_rfl) (fun _ _ _ h => h) (Or.inl ⟨by rfl, fun w' hSw => by obtain ⟨z0, z1, z2, z3, z4, z5⟩ := hSw; go_simp⟩) hH3 ?_
          simp only [Act.put, List.getElem_toArray, List.getElem_cons_zero, List.getElem_cons_succ, List.setIfInBounds_toArray, List.set_cons_zero, List.set_cons_succ]
          refine wpAnyH_take (i := 21) (oi := _) (v := .bool true) rfl (by kernel_rfl) (by kernel_rfl) (by kernel_rfl) (fun _ _ _ h => h) (Or.inl ⟨by rfl, fun w' hSw => by obtain ⟨z0, z1, z2, z3, z4, z5⟩ := hSw; go_simp⟩) hH3 ?_
          simp only [Act.put, List.getElem_toArray, List.getElem_cons_zero, List.getElem_cons_succ, List.setIfInBounds_toArray, List.set_cons_zero, List.set_cons_succ]
          refine wpAnyH_take (i := 22) (oi := _) (v := .pointer (some ⟨w.heap.size, 3, none⟩)) rfl (by kernel_rfl) (by kernel_rfl) (by kernel_rfl) (fun _ _ _ h => h) (Or.inl ⟨by rfl, fun w' hSw => by obtain ⟨z0, z1, z2, z3, z4, z5⟩ := hSw; go_simp⟩) hH3 ?_
          simp only [Act.put, List.getElem_toArray, List.getElem_cons_zero, List.getElem_cons_succ, List.setIfInBounds_toArray, List.set_cons_zero, List.set_cons_succ]
          refine wpAnyH_take (i := 23) (oi := _) (v := .func (.func L.ko) #[] L.co) rfl (by kernel_rfl) (by kernel_rfl) (by kernel_rfl) (fun _ _ _ h => h) (Or.inl ⟨by rfl, fun w' hSw => by obtain ⟨z0, z1, z2, z3, z4, z5⟩ := hSw; go_simp⟩) hH3 ?_
          simp only [Act.put, List.getElem_toArray, List.getElem_cons_zero, List.getElem_cons_succ, List.setIfInBounds_toArray, List.set_cons_zero, List.set_cons_succ]
          refine wpAnyH_take (i := 24) (oi := _) (v := .int .u64 x) rfl (by kernel_rfl) (by kernel_rfl) (by kernel_rfl) (fun _ _ _ h => h) (Or.inl ⟨by rfl, fun w' hSw => by obtain ⟨z0, z1, z2, z3, z4, z5⟩ := hSw; go_simp⟩) hH3 ?_
          simp only [Act.put, List.getElem_toArray, List.getElem_cons_zero, List.getElem_cons_succ, List.setIfInBounds_toArray, List.set_cons_zero, List.set_cons_succ]
          refine wpAnyH_take (i := 25) (oi := _) (v := .pointer (some ⟨w.heap.size + 1, 2, none⟩)) rfl (by kernel_rfl) (by kernel_rfl) (by kernel_rfl) (fun _ _ _ h => h) (Or.inl ⟨by rfl, fun w' hSw => by obtain ⟨z0, z1, z2, z3, z4, z5⟩ := hSw; go_simp⟩) hH3 ?_
          simp only [Act.put, List.getElem_toArray, List.getElem_cons_zero, List.getElem_cons_succ, List.setIfInBounds_toArray, List.set_cons_zero, List.set_cons_succ]
          refine wpAnyH_take (i := 26) (oi := _) (v := .int .u64 b) rfl (by kernel_rfl) (by kernel_rfl) (by kernel_rfl) (fun _ _ _ h => h) (Or.inl ⟨by rfl, fun w' hSw => by obtain ⟨z0, z1, z2, z3, z4, z5⟩ := hSw; go_simp⟩) hH3 ?_
          simp only [Act.put, List.getElem_toArray, List.getElem_cons_zero, List.getElem_cons_succ, List.setIfInBounds_toArray, List.set_cons_zero, List.set_cons_succ]
          refine wpAnyH_ready (rs := [27]) (by kernel_rfl) (by simp) (AllReadyH.cons (o := _) rfl (fun K hK => ?_) AllReadyH.nil)
          go_simp
          refine (h4 _ (by first | exact okW | exact okW.drew)).mono ?_
          rintro e v4 ⟨rfl, g4⟩
          replace g4 : Below v3.heap.size v3 v4 := ⟨g4.os, g4.tape, g4.output, g4.size, g4.block⟩
          replace l3 := sO g4 l3; replace l4 := sO g4 l4; replace l5 := sO g4 l5; replace a0 := sO g4 a0; replace a1 := sO g4 a1; replace a2 := sO g4 a2
          replace okW := ok_call hB okW g4
          replace bW := sp_call bW g4
          go_wp2_with fail
          refine hK.out _ _ ⟨l3, l4, l5, a0, a1, a2⟩ (fun hH4 => ?_)
          clear hK K hH3
          try simp only [Act.put, List.getElem_toArray, List.getElem_cons_zero, List.getElem_cons_succ, List.setIfInBounds_toArray, List.set_cons_zero, List.set_cons_succ]
          refine wpAnyH_take (i := 28) (oi := _) (v := .bool false) rfl (by kernel_rfl) (by kernel_rfl) (by kernel_rfl) (fun _ _ _ h => h) (Or.inl ⟨by rfl, fun w' hSw => by obtain ⟨z0, z1, z2, z3, z4, z5⟩ := hSw; go_simp⟩) hH4 ?_
          simp only [Act.put, List.getElem_toArray, List.getElem_cons_zero, List.getElem_cons_succ, List.setIfInBounds_toArray, List.set_cons_zero, List.set_cons_succ]
          refine wpAnyH_take (i := 29) (oi := _) (v := .bool false) rfl (by kernel_rfl) (by kernel_rfl) (by kernel_rfl) (fun _ _ _ h => h) (Or.inl ⟨by rfl, fun w' hSw => by obtain ⟨z0, z1, z2, z3, z4, z5⟩ := hSw; go_simp⟩) hH4 ?_
          simp only [Act.put, List.getElem_toArray, List.getElem_cons_zero, List.getElem_cons_succ, List.setIfInBounds_toArray, List.set_cons_zero, List.set_cons_succ]
          refine wpAnyH_take (i := 30) (oi := _) (v := .bool false) rfl (by kernel_rfl) (by kernel_rfl) (by kernel_rfl) (fun _ _ _ h => h) (Or.inl ⟨by rfl, fun w' hSw => by obtain ⟨z0, z1, z2, z3, z4, z5⟩ := hSw; go_simp⟩) hH4 ?_
          simp only [Act.put, List.getElem_toArray, List.getElem_cons_zero, List.getElem_cons_succ, List.setIfInBounds_toArray, List.set_cons_zero, List.set_cons_succ]
          refine wpAnyH_done (by kernel_rfl) ?_ _
          go_wp2
          go_ret
          exact ⟨by simp [*], by first | exact bW | exact bW.drew⟩
      · have q1' : decide (o1 ≤ 0) = false := decide_eq_false q1
        go_enter Tryz.func147, Tryz.ntmps147
        go_wp2_with fail
        obtain ⟨W, hW⟩ : ∃ W, ((w.alloc (.cells #[.int .u64 L.least, .int .u64 L.most, .int .i64 L.past, .func (.func L.ko) #[] L.co, .func (.func L.kp) #[] L.cp, .func (.func L.k1) #[] L.c1, .func (.func L.kv) #[] L.cv, .func (.func L.kn) #[] L.cn, .func (.func L.ku) #[] L.cu, .func (.func L.kt) #[] L.ct, .func (.func L.kz) #[] L.cz] 134)).alloc (.cells #[.bool false, .int .u64 a, .int .u64 b] 126)) = W := ⟨_, rfl⟩
        have l0 : W.cell? ⟨w.heap.size, 0, none⟩ = some (.int .u64 L.least) := by rw [← hW]; simp [go_sem]
        have l1 : W.cell? ⟨w.heap.size, 1, none⟩ = some (.int .u64 L.most) := by rw [← hW]; simp [go_sem]
        have l2 : W.cell? ⟨w.heap.size, 2, none⟩ = some (.int .i64 L.past) := by rw [← hW]; simp [go_sem]
        have l3 : W.cell? ⟨w.heap.size, 3, none⟩ = some (.func (.func L.ko) #[] L.co) := by rw [← hW]; simp [go_sem]
        have l4 : W.cell? ⟨w.heap.size, 4, none⟩ = some (.func (.func L.kp) #[] L.cp) := by rw [← hW]; simp [go_sem]
        have l5 : W.cell? ⟨w.heap.size, 5, none⟩ = some (.func (.func L.k1) #[] L.c1) := by rw [← hW]; simp [go_sem]
        have l6 : W.cell? ⟨w.heap.size, 6, none⟩ = some (.func (.func L.kv) #[] L.cv) := by rw [← hW]; simp [go_sem]
        have l7 : W.cell? ⟨w.heap.size, 7, none⟩ = some (.func (.func L.kn) #[] L.cn) := by rw [← hW]; simp [go_sem]
        have l8 : W.cell? ⟨w.heap.size, 8, none⟩ = some (.func (.func L.ku) #[] L.cu) := by rw [← hW]; simp [go_sem]
        have l9 : W.cell? ⟨w.heap.size, 9, none⟩ = some (.func (.func L.kt) #[] L.ct) := by rw [← hW]; simp [go_sem]
        have l10 : W.cell? ⟨w.heap.size, 10, none⟩ = some (.func (.func L.kz) #[] L.cz) := by rw [← hW]; simp [go_sem]
        have a0 : W.cell? ⟨w.heap.size + 1, 0, none⟩ = some (.bool false) := by rw [← hW]; simp [go_sem]
        have a1 : W.cell? ⟨w.heap.size + 1, 1, none⟩ = some (.int .u64 a) := by rw [← hW]; simp [go_sem]
        have a2 : W.cell? ⟨w.heap.size + 1, 2, none⟩ = some (.int .u64 b) := by rw [← hW]; simp [go_sem]
        have okW : Below B w0 W := by rw [← hW]; exact (ok_new hB (ok_new hB ok _) _)
        have bW : Below w.heap.size w W := by rw [← hW]; exact (sp_new (sp_new (Below.refl _ _) _) _)
        have zW : W.heap.size = w.heap.size + 2 := by rw [← hW]; simp
        rw [hW]
        clear hW
        refine wp_region_held_drew (S := (fun w' => w'.cell? ⟨w.heap.size, 3, none⟩ = some (.func (.func L.ko) #[] L.co) ∧ w'.cell? ⟨w.heap.size, 4, none⟩ = some (.func (.func L.kp) #[] L.cp) ∧ w'.cell? ⟨w.heap.size, 5, none⟩ = some (.func (.func L.k1) #[] L.c1) ∧ w'.cell? ⟨w.heap.size + 1, 0, none⟩ = some (.bool false) ∧ w'.cell? ⟨w.heap.size + 1, 1, none⟩ = some (.int .u64 a) ∧ w'.cell? ⟨w.heap.size + 1, 2, none⟩ = some (.int .u64 b))) (by kernel_rfl) ⟨l3, l4, l5, a0, a1, a2⟩ (fun hH0 => ?_)
        refine wpAnyH_take (i := 0) (oi := _) (v := .pointer (some ⟨w.heap.size + 1, 0, none⟩)) rfl (by kernel_rfl) (by kernel_rfl) (by kernel_rfl) (fun _ _ _ h => h) (Or.inl ⟨by rfl, fun w' hSw => by obtain ⟨z0, z1, z2, z3, z4, z5⟩ := hSw; go_simp⟩) hH0 ?_
        simp only [Act.put, List.getElem_toArray, List.getElem_cons_zero, List.getElem_cons_succ, List.setIfInBounds_toArray, List.set_cons_zero, List.set_cons_succ]
        refine wpAnyH_take (i := 1) (oi := _) (v := .bool false) rfl (by kernel_rfl) (by kernel_rfl) (by kernel_rfl) (fun _ _ _ h => h) (Or.inl ⟨by rfl, fun w' hSw => by obtain ⟨z0, z1, z2, z3, z4, z5⟩ := hSw; go_simp⟩) hH0 ?_
        simp only [Act.put, List.getElem_toArray, List.getElem_cons_zero, List.getElem_cons_succ, List.setIfInBounds_toArray, List.set_cons_zero, List.set_cons_succ]
        refine wpAnyH_take (i := 2) (oi := _) (v := .bool true) rfl (by kernel_rfl) (by kernel_rfl) (by kernel_rfl) (fun _ _ _ h => h) (Or.inl ⟨by rfl, fun w' hSw => by obtain ⟨z0, z1, z2, z3, z4, z5⟩ := hSw; go_simp⟩) hH0 ?_
        simp only [Act.put, List.getElem_toArray, List.getElem_cons_zero, List.getElem_cons_succ, List.setIfInBounds_toArray, List.set_cons_zero, List.set_cons_succ]
        refine wpAnyH_take (i := 3) (oi := _) (v := .bool true) rfl (by kernel_rfl) (by kernel_rfl) (by kernel_rfl) (fun _ _ _ h => h) (Or.inl ⟨by rfl, fun w' hSw => by obtain ⟨z0, z1, z2, z3, z4, z5⟩ := hSw; go_simp⟩) hH0 ?_
        simp only [Act.put, List.getElem_toArray, List.getElem_cons_zero, List.getElem_cons_succ, List.setIfInBounds_toArray, List.set_cons_zero, List.set_cons_succ]
        refine wpAnyH_take (i := 4) (oi := _) (v := .pointer (some ⟨w.heap.size, 5, none⟩)) rfl (by kernel_rfl) (by kernel_rfl) (by kernel_rfl) (fun _ _ _ h => h) (Or.inl ⟨by rfl, fun w' hSw => by obtain ⟨z0, z1, z2, z3, z4, z5⟩ := hSw; go_simp⟩) hH0 ?_
        simp only [Act.put, List.getElem_toArray, List.getElem_cons_zero, List.getElem_cons_succ, List.setIfInBounds_toArray, List.set_cons_zero, List.set_cons_succ]
        refine wpAnyH_take (i := 5) (oi := _) (v := .func (.func L.k1) #[] L.c1) rfl (by kernel_rfl) (by kernel_rfl) (by kernel_rfl) (fun _ _ _ h => h) (Or.inl ⟨by rfl, fun w' hSw => by obtain ⟨z0, z1, z2, z3, z4, z5⟩ := hSw; go_simp⟩) hH0 ?_
        simp only [Act.put, List.getElem_toArray, List.getElem_cons_zero, List.getElem_cons_succ, List.setIfInBounds_toArray, List.set_cons_zero, List.set_cons_succ]
        refine wpAnyH_take (i := 6) (oi := _) (v := .pointer (some ⟨w.heap.size, 4, none⟩)) rfl (by kernel_rfl) (by kernel_rfl) (by kernel_rfl) (fun _ _ _ h => h) (Or.inl ⟨by rfl, fun w' hSw => by obtain ⟨z0, z1, z2, z3, z4, z5⟩ := hSw; go_simp⟩) hH0 ?_
        simp only [Act.put, List.getElem_toArray, List.getElem_cons_zero, List.getElem_cons_succ, List.setIfInBounds_toArray, List.set_cons_zero, List.set_cons_succ]
        refine wpAnyH_take (i := 7) (oi := _) (v := .func (.func L.kp) #[] L.cp) rfl (by kernel_rfl) (by kernel_rfl) (by kernel_rfl) (fun _ _ _ h => h) (Or.inl ⟨by rfl, fun w' hSw => by obtain ⟨z0, z1, z2, z3, z4, z5⟩ := hSw; go_simp⟩) hH0 ?_
        simp only [Act.put, List.getElem_toArray, List.getElem_cons_zero, List.getElem_cons_succ, List.setIfInBounds_toArray, List.set_cons_zero, List.set_cons_succ]
        refine wpAnyH_take (i := 8) (oi := _) (v := .int .u64 x) rfl (by kernel_rfl) (by kernel_rfl) (by kernel_rfl) (fun _ _ _ h => h) (Or.inl ⟨by rfl, fun w' hSw => by obtain ⟨z0, z1, z2, z3, z4, z5⟩ := hSw; go_simp⟩) hH0 ?_
        simp only [Act.put, List.getElem_toArray, List.getElem_cons_zero, List.getElem_cons_succ, List.setIfInBounds_toArray, List.set_cons_zero, List.set_cons_succ]
        refine wpAnyH_ready (rs := [9]) (by kernel_rfl) (by simp) (AllReadyH.cons (o := _) rfl (fun K hK => ?_) AllReadyH.nil)
        go_simp
        refine (h1 _ (by first | exact okW | exact okW.drew)).mono ?_
        rintro e v1 ⟨rfl, g1⟩
        replace g1 : Below W.heap.size W v1 := ⟨g1.os, g1.tape, g1.output, g1.size, g1.block⟩
        replace l3 := sO g1 l3; replace l4 := sO g1 l4; replace l5 := sO g1 l5; replace a0 := sO g1 a0; replace a1 := sO g1 a1; replace a2 := sO g1 a2
        replace okW := ok_call hB okW g1
        replace bW := sp_call bW g1
        go_wp2_with fail
        refine hK.out _ _ ⟨l3, l4, l5, a0, a1, a2⟩ (fun hH1 => ?_)
        clear hK K hH0
        try simp only [Act.put, List.getElem_toArray, List.getElem_cons_zero, List.getElem_cons_succ, List.setIfInBounds_toArray, List.set_cons_zero, List.set_cons_succ]
        refine wpAnyH_ready (rs := [10]) (by kernel_rfl) (by simp) (AllReadyH.cons (o := _) rfl (fun K hK => ?_) AllReadyH.nil)
        go_simp
        refine (h2 _ (by first | exact okW | exact okW.drew)).mono ?_
        rintro e v2 ⟨rfl, g2⟩
        replace g2 : Below v1.heap.size v1 v2 := ⟨g2.os, g2.tape, g2.output, g2.size, g2.block⟩
        replace l3 := sO g2 l3; replace l4 := sO g2 l4; replace l5 := sO g2 l5; replace a0 := sO g2 a0; replace a1 := sO g2 a1; replace a2 := sO g2 a2
        replace okW := ok_call hB okW g2
        replace bW := sp_call bW g2
        go_wp2_with fail
        refine hK.out _ _ ⟨l3, l4, l5, a0, a1, a2⟩ (fun hH2 => ?_)
        clear hK K hH1
        try simp only [Act.put, List.getElem_toArray, List.getElem_cons_zero, List.getElem_cons_succ, List.setIfInBounds_toArray, List.set_cons_zero, List.set_cons_succ]
        refine wpAnyH_take (i := 11) (oi := _) (v := .bool true) rfl (by kernel_rfl) (by kernel_rfl) (by kernel_rfl) (fun _ _ _ h => h) (Or.inl ⟨by rfl, fun w' hSw => by obtain ⟨z0, z1, z2, z3, z4, z5⟩ := hSw; go_simp⟩) hH2 ?_
        simp only [Act.put, List.getElem_toArray, List.getElem_cons_zero, List.getElem_cons_succ, List.setIfInBounds_toArray, List.set_cons_zero, List.set_cons_succ]
        refine wpAnyH_take (i := 12) (oi := _) (v := .bool true) rfl (by kernel_rfl) (by kernel_rfl) (by kernel_rfl) (fun _ _ _ h => h) (Or.inl ⟨by rfl, fun w' hSw => by obtain ⟨z0, z1, z2, z3, z4, z5⟩ := hSw; go_simp⟩) hH2 ?_
        simp only [Act.put, List.getElem_toArray, List.getElem_cons_zero, List.getElem_cons_succ, List.setIfInBounds_toArray, List.set_cons_zero, List.set_cons_succ]
        refine wpAnyH_take (i := 13) (oi := _) (v := .pointer (some ⟨w.heap.size, 3, none⟩)) rfl (by kernel_rfl) (by kernel_rfl) (by kernel_rfl) (fun _ _ _ h => h) (Or.inl ⟨by rfl, fun w' hSw => by obtain ⟨z0, z1, z2, z3, z4, z5⟩ := hSw; go_simp⟩) hH2 ?_
        simp only [Act.put, List.getElem_toArray, List.getElem_cons_zero, List.getElem_cons_succ, List.setIfInBounds_toArray, List.set_cons_zero, List.set_cons_succ]
        refine wpAnyH_take (i := 14) (oi := _) (v := .func (.func L.ko) #[] L.co) rfl (by kernel_rfl) (by kernel_rfl) (by kernel_rfl) (fun _ _ _ h => h) (Or.inl ⟨by rfl, fun w' hSw => by obtain ⟨z0, z1, z2, z3, z4, z5⟩ := hSw; go_simp⟩) hH2 ?_
        simp only [Act.put, List.getElem_toArray, List.getElem_cons_zero, List.getElem_cons_succ, List.setIfInBounds_toArray, List.set_cons_zero, List.set_cons_succ]
        refine wpAnyH_take (i := 15) (oi := _) (v := .pointer (some ⟨w.heap.size + 1, 1, none⟩)) rfl (by kernel_rfl) (by kernel_rfl) (by kernel_rfl) (fun _ _ _ h => h) (Or.inl ⟨by rfl, fun w' hSw => by obtain ⟨z0, z1, z2, z3, z4, z5⟩ := hSw; go_simp⟩) hH2 ?_
        simp only [Act.put, List.getElem_toArray, List.getElem_cons_zero, List.getElem_cons_succ, List.setIfInBounds_toArray, List.set_cons_zero, List.set_cons_succ]
        refine wpAnyH_take (i := 16) (oi := _) (v := .int .u64 a) rfl (by kernel_rfl) (by kernel_rfl) (by kernel_rfl) (fun _ _ _ h => h) (Or.inl ⟨by rfl, fun w' hSw => by obtain ⟨z0, z1, z2, z3, z4, z5⟩ := hSw; go_simp⟩) hH2 ?_
        simp only [Act.put, List.getElem_toArray, List.getElem_cons_zero, List.getElem_cons_succ, List.setIfInBounds_toArray, List.set_cons_zero, List.set_cons_succ]
        refine wpAnyH_take (i := 17) (oi := _) (v := .int .u64 x) rfl (by kernel_rfl) (by kernel_rfl) (by kernel_rfl) (fun _ _ _ h => h) (Or.inl ⟨by rfl, fun w' hSw => by obtain ⟨z0, z1, z2, z3, z4, z5⟩ := hSw; go_simp⟩) hH2 ?_
        simp only [Act.put, List.getElem_toArray, List.getElem_cons_zero, List.getElem_cons_succ, List.setIfInBounds_toArray, List.set_cons_zero, List.set_cons_succ]
        refine wpAnyH_ready (rs := [18]) (by kernel_rfl) (by simp) (AllReadyH.cons (o := _) rfl (fun K hK => ?_) AllReadyH.nil)
        go_simp
        refine (h3 _ (by first | exact okW | exact okW.drew)).mono ?_
        rintro e v3 ⟨rfl, g3⟩
        replace g3 : Below v2.heap.size v2 v3 := ⟨g3.os, g3.tape, g3.output, g3.size, g3.block⟩
        replace l3 := sO g3 l3; replace l4 := sO g3 l4; replace l5 := sO g3 l5; replace a0 := sO g3 a0; replace a1 := sO g3 a1; replace a2 := sO g3 a2
        replace okW := ok_call hB okW g3
        replace bW := sp_call bW g3
        go_wp2_with fail
        refine hK.out _ _ ⟨l3, l4, l5, a0, a1, a2⟩ (fun hH3 => ?_)
        clear hK K hH2
        try simp only [Act.put, List.getElem_toArray, List.getElem_cons_zero, List.getElem_cons_succ, List.setIfInBounds_toArray, List.set_cons_zero, List.set_cons_succ]
        refine wpAnyH_take (i := 19) (oi := _) (v := .bool false) rfl (by kernel_rfl) (by kernel_rfl) (by kernel_rfl) (fun _ _ _ h => h) (Or.inl ⟨by rfl, fun w' hSw => by obtain ⟨z0, z1, z2, z3, z4, z5⟩ := hSw; go_simp⟩) hH3 ?_
        simp only [Act.put, List.getElem_toArray, List.getElem_cons_zero, List.getElem_cons_succ, List.setIfInBounds_toArray, List.set_cons_zero, List.set_cons_succ]
        refine wpAnyH_take (i := 20) (oi := _) (v := .bool false) rfl (by kernel_rfl) (by kernel_rfl) (by kernel_rfl) (fun _ _ _ h => h) (Or.inl ⟨by rfl, fun w' hSw => by obtain ⟨z0, z1, z2, z3, z4, z5⟩ := hSw; go_simp⟩) hH3 ?_
        simp only [Act.put, List.getElem_toArray, List.getElem_cons_zero, List.getElem_cons_succ, List.setIfInBounds_toArray, List.set_cons_zero, List.set_cons_succ]
        refine wpAnyH_take (i := 21) (oi := _) (v := .bool false) rfl (by kernel_rfl) (by kernel_rfl) (by kernel_rfl) (fun _ _ _ h => h) (Or.inl ⟨by rfl, fun w' hSw => by obtain ⟨z0, z1, z2, z3, z4, z5⟩ := hSw; go_simp⟩) hH3 ?_
        simp only [Act.put, List.getElem_toArray, List.getElem_cons_zero, List.getElem_cons_succ, List.setIfInBounds_toArray, List.set_cons_zero, List.set_cons_succ]
        refine wpAnyH_take (i := 22) (oi := _) (v := undef) rfl (by kernel_rfl) (by kernel_rfl) (by kernel_rfl) (fun _ _ _ h => h) (Or.inr ⟨by rfl, rfl⟩) hH3 ?_
        simp only [Act.put, List.getElem_toArray, List.getElem_cons_zero, List.getElem_cons_succ, List.setIfInBounds_toArray, List.set_cons_zero, List.set_cons_succ]
        refine wpAnyH_take (i := 23) (oi := _) (v := undef) rfl (by kernel_rfl) (by kernel_rfl) (by kernel_rfl) (fun _ _ _ h => h) (Or.inr ⟨by rfl, rfl⟩) hH3 ?_
        simp only [Act.put, List.getElem_toArray, List.getElem_cons_zero, List.getElem_cons_succ, List.setIfInBounds_toArray, List.set_cons_zero, List.set_cons_succ]
        refine wpAnyH_take (i := 24) (oi := _) (v := undef) rfl (by kernel_rfl) (by kernel_rfl) (by kernel_rfl) (fun _ _ _ h => h) (Or.inr ⟨by rfl, rfl⟩) hH3 ?_
        simp only [Act.put, List.getElem_toArray, List.getElem_cons_zero, List.getElem_cons_succ, List.setIfInBounds_toArray, List.set_cons_zero, List.set_cons_succ]
        refine wpAnyH_take (i := 25) (oi := _) (v := undef) rfl (by kernel_rfl) (by kernel_rfl) (by kernel_rfl) (fun _ _ _ h => h) (Or.inr ⟨by rfl, rfl⟩) hH3 ?_
        simp only [Act.put, List.getElem_toArray, List.getElem_cons_zero, List.getElem_cons_succ, List.setIfInBounds_toArray, List.set_cons_zero, List.set_cons_succ]
        refine wpAnyH_take (i := 26) (oi := _) (v := undef) rfl (by kernel_rfl) (by kernel_rfl) (by kernel_rfl) (fun _ _ _ h => h) (Or.inr ⟨by rfl, rfl⟩) hH3 ?_
        simp only [Act.put, List.getElem_toArray, List.getElem_cons_zero, List.getElem_cons_succ, List.setIfInBounds_toArray, List.set_cons_zero, List.set_cons_succ]
        refine wpAnyH_take (i := 27) (oi := _) (v := undef) rfl (by kernel_rfl) (by kernel_rfl) (by kernel_rfl) (fun _ _ _ h => h) (Or.inr ⟨by rfl, rfl⟩) hH3 ?_
        simp only [Act.put, List.getElem_toArray, List.getElem_cons_zero, List.getElem_cons_succ, List.setIfInBounds_toArray, List.set_cons_zero, List.set_cons_succ]
        refine wpAnyH_take (i := 28) (oi := _) (v := undef) rfl (by kernel_rfl) (by kernel_rfl) (by kernel_rfl) (fun _ _ _ h => h) (Or.inr ⟨by rfl, rfl⟩) hH3 ?_
        simp only [Act.put, List.getElem_toArray, List.getElem_cons_zero, List.getElem_cons_succ, List.setIfInBounds_toArray, List.set_cons_zero, List.set_cons_succ]
        refine wpAnyH_take (i := 29) (oi := _) (v := .bool false) rfl (by kernel_rfl) (by kernel_rfl) (by kernel_rfl) (fun _ _ _ h => h) (Or.inl ⟨by rfl, fun w' hSw => by obtain ⟨z0, z1, z2, z3, z4, z5⟩ := hSw; go_simp⟩) hH3 ?_
        simp only [Act.put, List.getElem_toArray, List.getElem_cons_zero, List.getElem_cons_succ, List.setIfInBounds_toArray, List.set_cons_zero, List.set_cons_succ]
        refine wpAnyH_take (i := 30) (oi := _) (v := .bool false) rfl (by kernel_rfl) (by kernel_rfl) (by kernel_rfl) (fun _ _ _ h => h) (Or.inl ⟨by rfl, fun w' hSw => by obtain ⟨z0, z1, z2, z3, z4, z5⟩ := hSw; go_simp⟩) hH3 ?_
        simp only [Act.put, List.getElem_toArray, List.getElem_cons_zero, List.getElem_cons_succ, List.setIfInBounds_toArray, List.set_cons_zero, List.set_cons_succ]
        refine wpAnyH_done (by kernel_rfl) ?_ _
        go_wp2
        go_ret
        exact ⟨by simp [*], by first | exact bW | exact bW.drew⟩
  · go_enter Tryz.func147, Tryz.ntmps147
    go_wp2_with fail
    obtain ⟨W, hW⟩ : ∃ W, ((w.alloc (.cells #[.int .u64 L.least, .int .u64 L.most, .int .i64 L.past, .func (.func L.ko) #[] L.co, .func (.func L.kp) #[] L.cp, .func (.func L.k1) #[] L.c1, .func (.func L.kv) #[] L.cv, .func (.func L.kn) #[] L.cn, .func (.func L.ku) #[] L.cu, .func (.func L.kt) #[] L.ct, .func (.func L.kz) #[] L.cz] 134)).alloc (.cells #[.bool true, .int .u64 a, .int .u64 b] 126)) = W := ⟨_, rfl⟩
    have l0 : W.cell? ⟨w.heap.size, 0, none⟩ = some (.int .u64 L.least) := by rw [← hW]; simp [go_sem]
    have l1 : W.cell? ⟨w.heap.size, 1, none⟩ = some (.int .u64 L.most) := by rw [← hW]; simp [go_sem]
    have l2 : W.cell? ⟨w.heap.size, 2, none⟩ = some (.int .i64 L.past) := by rw [← hW]; simp [go_sem]
    have l3 : W.cell? ⟨w.heap.size, 3, none⟩ = some (.func (.func L.ko) #[] L.co) := by rw [← hW]; simp [go_sem]
    have l4 : W.cell? ⟨w.heap.size, 4, none⟩ = some (.func (.func L.kp) #[] L.cp) := by rw [← hW]; simp [go_sem]
    have l5 : W.cell? ⟨w.heap.size, 5, none⟩ = some (.func (.func L.k1) #[] L.c1) := by rw [← hW]; simp [go_sem]
    have l6 : W.cell? ⟨w.heap.size, 6, none⟩ = some (.func (.func L.kv) #[] L.cv) := by rw [← hW]; simp [go_sem]
    have l7 : W.cell? ⟨w.heap.size, 7, none⟩ = some (.func (.func L.kn) #[] L.cn) := by rw [← hW]; simp [go_sem]
    have l8 : W.cell? ⟨w.heap.size, 8, none⟩ = some (.func (.func L.ku) #[] L.cu) := by rw [← hW]; simp [go_sem]
    have l9 : W.cell? ⟨w.heap.size, 9, none⟩ = some (.func (.func L.kt) #[] L.ct) := by rw [← hW]; simp [go_sem]
    have l10 : W.cell? ⟨w.heap.size, 10, none⟩ = some (.func (.func L.kz) #[] L.cz) := by rw [← hW]; simp [go_sem]
    have a0 : W.cell? ⟨w.heap.size + 1, 0, none⟩ = some (.bool true) := by rw [← hW]; simp [go_sem]
    have a1 : W.cell? ⟨w.heap.size + 1, 1, none⟩ = some (.int .u64 a) := by rw [← hW]; simp [go_sem]
    have a2 : W.cell? ⟨w.heap.size + 1, 2, none⟩ = some (.int .u64 b) := by rw [← hW]; simp [go_sem]
    have okW : Below B w0 W := by rw [← hW]; exact (ok_new hB (ok_new hB ok _) _)
    have bW : Below w.heap.size w W := by rw [← hW]; exact (sp_new (sp_new (Below.refl _ _) _) _)
    have zW : W.heap.size = w.heap.size + 2 := by rw [← hW]; simp
    rw [hW]
    clear hW
    refine wp_region_held_drew (S := (fun w' => w'.cell? ⟨w.heap.size, 3, none⟩ = some (.func (.func L.ko) #[] L.co) ∧ w'.cell? ⟨w.heap.size, 4, none⟩ = some (.func (.func L.kp) #[] L.cp) ∧ w'.cell? ⟨w.heap.size, 5, none⟩ = some (.func (.func L.k1) #[] L.c1) ∧ w'.cell? ⟨w.heap.size + 1, 0, none⟩ = some (.bool true) ∧ w'.cell? ⟨w.heap.size + 1, 1, none⟩ = some (.int .u64 a) ∧ w'.cell? ⟨w.heap.size + 1, 2, none⟩ = some (.int .u64 b))) (by kernel_rfl) ⟨l3, l4, l5, a0, a1, a2⟩ (fun hH0 => ?_)
    refine wpAnyH_take (i := 0) (oi := _) (v := .pointer (some ⟨w.heap.size + 1, 0, none⟩)) rfl (by kernel_rfl) (by kernel_rfl) (by kernel_rfl) (fun _ _ _ h => h) (Or.inl ⟨by rfl, fun w' hSw => by obtain ⟨z0, z1, z2, z3, z4, z5⟩ := hSw; go_simp⟩) hH0 ?_
    simp only [Act.put, List.getElem_toArray, List.getElem_cons_zero, List.getElem_cons_succ, List.setIfInBounds_toArray, List.set_cons_zero, List.set_cons_succ]
    refine wpAnyH_take (i := 1) (oi := _) (v := .bool true) rfl (by kernel_rfl) (by kernel_rfl) (by kernel_rfl) (fun _ _ _ h => h) (Or.inl ⟨by rfl, fun w' hSw => by obtain ⟨z0, z1, z2, z3, z4, z5⟩ := hSw; go_simp⟩) hH0 ?_
    simp only [Act.put, List.getElem_toArray, List.getElem_cons_zero, List.getElem_cons_succ, List.setIfInBounds_toArray, List.set_cons_zero, List.set_cons_succ]
    refine wpAnyH_take (i := 2) (oi := _) (v := .bool false) rfl (by kernel_rfl) (by kernel_rfl) (by kernel_rfl) (fun _ _ _ h => h) (Or.inl ⟨by rfl, fun w' hSw => by obtain ⟨z0, z1, z2, z3, z4, z5⟩ := hSw; go_simp⟩) hH0 ?_
    simp only [Act.put, List.getElem_toArray, List.getElem_cons_zero, List.getElem_cons_succ, List.setIfInBounds_toArray, List.set_cons_zero, List.set_cons_succ]
    refine wpAnyH_take (i := 3) (oi := _) (v := .bool false) rfl (by kernel_rfl) (by kernel_rfl) (by kernel_rfl) (fun _ _ _ h => h) (Or.inl ⟨by rfl, fun w' hSw => by obtain ⟨z0, z1, z2, z3, z4, z5⟩ := hSw; go_simp⟩) hH0 ?_
    simp only [Act.put, List.getElem_toArray, List.getElem_cons_zero, List.getElem_cons_succ, List.setIfInBounds_toArray, List.set_cons_zero, List.set_cons_succ]
    refine wpAnyH_take (i := 4) (oi := _) (v := undef) rfl (by kernel_rfl) (by kernel_rfl) (by kernel_rfl) (fun _ _ _ h => h) (Or.inr ⟨by rfl, rfl⟩) hH0 ?_
    simp only [Act.put, List.getElem_toArray, List.getElem_cons_zero, List.getElem_cons_succ, List.setIfInBounds_toArray, List.set_cons_zero, List.set_cons_succ]
    refine wpAnyH_take (i := 5) (oi := _) (v := undef) rfl (by kernel_rfl) (by kernel_rfl) (by kernel_rfl) (fun _ _ _ h => h) (Or.inr ⟨by rfl, rfl⟩) hH0 ?_
    simp only [Act.put, List.getElem_toArray, List.getElem_cons_zero, List.getElem_cons_succ, List.setIfInBounds_toArray, List.set_cons_zero, List.set_cons_succ]
    refine wpAnyH_take (i := 6) (oi := _) (v := undef) rfl (by kernel_rfl) (by kernel_rfl) (by kernel_rfl) (fun _ _ _ h => h) (Or.inr ⟨by rfl, rfl⟩) hH0 ?_
    simp only [Act.put, List.getElem_toArray, List.getElem_cons_zero, List.getElem_cons_succ, List.setIfInBounds_toArray, List.set_cons_zero, List.set_cons_succ]
    refine wpAnyH_take (i := 7) (oi := _) (v := undef) rfl (by kernel_rfl) (by kernel_rfl) (by kernel_rfl) (fun _ _ _ h => h) (Or.inr ⟨by rfl, rfl⟩) hH0 ?_
    simp only [Act.put, List.getElem_toArray, List.getElem_cons_zero, List.getElem_cons_succ, List.setIfInBounds_toArray, List.set_cons_zero, List.set_cons_succ]
    refine wpAnyH_take (i := 8) (oi := _) (v := undef) rfl (by kernel_rfl) (by kernel_rfl) (by kernel_rfl) (fun _ _ _ h => h) (Or.inr ⟨by rfl, rfl⟩) hH0 ?_
    simp only [Act.put, List.getElem_toArray, List.getElem_cons_zero, List.getElem_cons_succ, List.setIfInBounds_toArray, List.set_cons_zero, List.set_cons_succ]
    refine wpAnyH_take (i := 9) (oi := _) (v := undef) rfl (by kernel_rfl) (by kernel_rfl) (by kernel_rfl) (fun _ _ _ h => h) (Or.inr ⟨by rfl, rfl⟩) hH0 ?_
    simp only [Act.put, List.getElem_toArray, List.getElem_cons_zero, List.getElem_cons_succ, List.setIfInBounds_toArray, List.set_cons_zero, List.set_cons_succ]
    refine wpAnyH_take (i := 10) (oi := _) (v := undef) rfl (by kernel_rfl) (by kernel_rfl) (by kernel_rfl) (fun _ _ _ h => h) (Or.inr ⟨by rfl, rfl⟩) hH0 ?_
    simp only [Act.put, List.getElem_toArray, List.getElem_cons_zero, List.getElem_cons_succ, List.setIfInBounds_toArray, List.set_cons_zero, List.set_cons_succ]
    refine wpAnyH_take (i := 11) (oi := _) (v := .bool false) rfl (by kernel_rfl) (by kernel_rfl) (by kernel_rfl) (fun _ _ _ h => h) (Or.inl ⟨by rfl, fun w' hSw => by obtain ⟨z0, z1, z2, z3, z4, z5⟩ := hSw; go_simp⟩) hH0 ?_
    simp only [Act.put, List.getElem_toArray, List.getElem_cons_zero, List.getElem_cons_succ, List.setIfInBounds_toArray, List.set_cons_zero, List.set_cons_succ]
    refine wpAnyH_take (i := 12) (oi := _) (v := .bool false) rfl (by kernel_rfl) (by kernel_rfl) (by kernel_rfl) (fun _ _ _ h => h) (Or.inl ⟨by rfl, fun w' hSw => by obtain ⟨z0, z1, z2, z3, z4, z5⟩ := hSw; go_simp⟩) hH0 ?_
    simp only [Act.put, List.getElem_toArray, List.getElem_cons_zero, List.getElem_cons_succ, List.setIfInBounds_toArray, List.set_cons_zero, List.set_cons_succ]
    refine wpAnyH_take (i := 13) (oi := _) (v := undef) rfl (by kernel_rfl) (by kernel_rfl) (by kernel_rfl) (fun _ _ _ h => h) (Or.inr ⟨by rfl, rfl⟩) hH0 ?_
    simp only [Act.put, List.getElem_toArray, List.getElem_cons_zero, List.getElem_cons_succ, List.setIfInBounds_toArray, List.set_cons_zero, List.set_cons_succ]
    refine wpAnyH_take (i := 14) (oi := _) (v := undef) rfl (by kernel_rfl) (by kernel_rfl) (by kernel_rfl) (fun _ _ _ h => h) (Or.inr ⟨by rfl, rfl⟩) hH0 ?_
    simp only [Act.put, List.getElem_toArray, List.getElem_cons_zero, List.getElem_cons_succ, List.setIfInBounds_toArray, List.set_cons_zero, List.set_cons_succ]
    refine wpAnyH_take (i := 15) (oi := _) (v := undef) rfl (by kernel_rfl) (by kernel_rfl) (by kernel_rfl) (fun _ _ _ h => h) (Or.inr ⟨by rfl, rfl⟩) hH0 ?_
    simp only [Act.put, List.getElem_toArray, List.getElem_cons_zero, List.getElem_cons_succ, List.setIfInBounds_toArray, List.set_cons_zero, List.set_cons_succ]
    refine wpAnyH_take (i := 16) (oi := _) (v := undef) rfl (by kernel_rfl) (by kernel_rfl) (by kernel_rfl) (fun _ _ _ h => h) (Or.inr ⟨by rfl, rfl⟩) hH0 ?_
    simp only [Act.put, List.getElem_toArray, List.getElem_cons_zero, List.getElem_cons_succ, List.setIfInBounds_toArray, List.set_cons_zero, List.set_cons_succ]
    refine wpAnyH_take (i := 17) (oi := _) (v := undef) rfl (by kernel_rfl) (by kernel_rfl) (by kernel_rfl) (fun _ _ _ h => h) (Or.inr ⟨by rfl, rfl⟩) hH0 ?_
    simp only [Act.put, List.getElem_toArray, List.getElem_cons_zero, List.getElem_cons_succ, List.setIfInBounds_toArray, List.set_cons_zero, List.set_cons_succ]
    refine wpAnyH_take (i := 18) (oi := _) (v := undef) rfl (by kernel_rfl) (by kernel_rfl) (by kernel_rfl) (fun _ _ _ h => h) (Or.inr ⟨by rfl, rfl⟩) hH0 ?_
    simp only [Act.put, List.getElem_toArray, List.getElem_cons_zero, List.getElem_cons_succ, List.setIfInBounds_toArray, List.set_cons_zero, List.set_cons_succ]
    refine wpAnyH_take (i := 19) (oi := _) (v := undef) rfl (by kernel_rfl) (by kernel_rfl) (by kernel_rfl) (fun _ _ _ h => h) (Or.inr ⟨by rfl, rfl⟩) hH0 ?_
    simp only [Act.put, List.getElem_toArray, List.getElem_cons_zero, List.getElem_cons_succ, List.setIfInBounds_toArray, List.set_cons_zero, List.set_cons_succ]
    refine wpAnyH_take (i := 20) (oi := _) (v := .bool false) rfl (by kernel_rfl) (by kernel_rfl) (by kernel_rfl) (fun _ _ _ h => h) (Or.inl ⟨by rfl, fun w' hSw => by obtain ⟨z0, z1, z2, z3, z4, z5⟩ := hSw; go_simp⟩) hH0 ?_
    simp only [Act.put, List.getElem_toArray, List.getElem_cons_zero, List.getElem_cons_succ, List.setIfInBounds_toArray, List.set_cons_zero, List.set_cons_succ]
    refine wpAnyH_take (i := 21) (oi := _) (v := .bool false) rfl (by kernel_rfl) (by kernel_rfl) (by kernel_rfl) (fun _ _ _ h => h) (Or.inl ⟨by rfl, fun w' hSw => by obtain ⟨z0, z1, z2, z3, z4, z5⟩ := hSw; go_simp⟩) hH0 ?_
    simp only [Act.put, List.getElem_toArray, List.getElem_cons_zero, List.getElem_cons_succ, List.setIfInBounds_toArray, List.set_cons_zero, List.set_cons_succ]
    refine wpAnyH_take (i := 22) (oi := _) (v := undef) rfl (by kernel_rfl) (by kernel_rfl) (by kernel_rfl) (fun _ _ _ h => h) (Or.inr ⟨by rfl, rfl⟩) hH0 ?_
    simp only [Act.put, List.getElem_toArray, List.getElem_cons_zero, List.getElem_cons_succ, List.setIfInBounds_toArray, List.set_cons_zero, List.set_cons_succ]
    refine wpAnyH_take (i := 23) (oi := _) (v := undef) rfl (by kernel_rfl) (by kernel_rfl) (by kernel_rfl) (fun _ _ _ h => h) (Or.inr ⟨by rfl, rfl⟩) hH0 ?_
    simp only [Act.put, List.getElem_toArray, List.getElem_cons_zero, List.getElem_cons_succ, List.setIfInBounds_toArray, List.set_cons_zero, List.set_cons_succ]
    refine wpAnyH_take (i := 24) (oi := _) (v := undef) rfl (by kernel_rfl) (by kernel_rfl) (by kernel_rfl) (fun _ _ _ h => h) (Or.inr ⟨by rfl, rfl⟩) hH0 ?_
    simp only [Act.put, List.getElem_toArray, List.getElem_cons_zero, List.getElem_cons_succ, List.setIfInBounds_toArray, List.set_cons_zero, List.set_cons_succ]
    refine wpAnyH_take (i := 25) (oi := _) (v := undef) rfl (by kernel_rfl) (by kernel_rfl) (by kernel_rfl) (fun _ _ _ h => h) (Or.inr ⟨by rfl, rfl⟩) hH0 ?_
    simp only [Act.put, List.getElem_toArray, List.getElem_cons_zero, List.getElem_cons_succ, List.setIfInBounds_toArray, List.set_cons_zero, List.set_cons_succ]
    refine wpAnyH_take (i := 26) (oi := _) (v := undef) rfl (by kernel_rfl) (by kernel_rfl) (by kernel_rfl) (fun _ _ _ h => h) (Or.inr ⟨by rfl, rfl⟩) hH0 ?_
    simp only [Act.put, List.getElem_toArray, List.getElem_cons_zero, List.getElem_cons_succ, List.setIfInBounds_toArray, List.set_cons_zero, List.set_cons_succ]
    refine wpAnyH_take (i := 27) (oi := _) (v := undef) rfl (by kernel_rfl) (by kernel_rfl) (by kernel_rfl) (fun _ _ _ h => h) (Or.inr ⟨by rfl, rfl⟩) hH0 ?_
    simp only [Act.put, List.getElem_toArray, List.getElem_cons_zero, List.getElem_cons_succ, List.setIfInBounds_toArray, List.set_cons_zero, List.set_cons_succ]
    refine wpAnyH_take (i := 28) (oi := _) (v := undef) rfl (by kernel_rfl) (by kernel_rfl) (by kernel_rfl) (fun _ _ _ h => h) (Or.inr ⟨by rfl, rfl⟩) hH0 ?_
    simp only [Act.put, List.getElem_toArray, List.getElem_cons_zero, List.getElem_cons_succ, List.setIfInBounds_toArray, List.set_cons_zero, List.set_cons_succ]
    refine wpAnyH_take (i := 29) (oi := _) (v := .bool false) rfl (by kernel_rfl) (by kernel_rfl) (by kernel_rfl) (fun _ _ _ h => h) (Or.inl ⟨by rfl, fun w' hSw => by obtain ⟨z0, z1, z2, z3, z4, z5⟩ := hSw; go_simp⟩) hH0 ?_
    simp only [Act.put, List.getElem_toArray, List.getElem_cons_zero, List.getElem_cons_succ, List.setIfInBounds_toArray, List.set_cons_zero, List.set_cons_succ]
    refine wpAnyH_take (i := 30) (oi := _) (v := .bool false) rfl (by kernel_rfl) (by kernel_rfl) (by kernel_rfl) (fun _ _ _ h => h) (Or.inl ⟨by rfl, fun w' hSw => by obtain ⟨z0, z1, z2, z3, z4, z5⟩ := hSw; go_simp⟩) hH0 ?_
    simp only [Act.put, List.getElem_toArray, List.getElem_cons_zero, List.getElem_cons_succ, List.setIfInBounds_toArray, List.set_cons_zero, List.set_cons_succ]
    refine wpAnyH_done (by kernel_rfl) ?_ _
    go_wp2
    go_ret
    exact ⟨by simp [*], by first | exact bW | exact bW.drew⟩
end Go.Proofs.YteafnkimcidkhaaGreat

namespace Go.Proofs.YteafnkimcidkhaaGreat
open Go.RowKit
set_option linter.unusedVariables false
set_option linter.unusedSimpArgs false
theorem newerf {X v : World} {o o' : Obj} (g : Below ((X.alloc o').alloc o).heap.size ((X.alloc o').alloc o) v) : v.heap[X.heap.size + 1]? = some o := carry1f g (by have := World.alloc_heap_new (X.alloc o') o; rwa [World.size_alloc] at this)
theorem elderf {X v : World} {o o' : Obj} (g : Below ((X.alloc o).alloc o').heap.size ((X.alloc o).alloc o') v) : v.heap[X.heap.size]? = some o := carry2f g (World.alloc_heap_new X o)
theorem bltf {v : World} {b : Nat} {o : Obj} (q : v.heap[b]? = some o) : b < v.heap.size := (Array.getElem?_eq_some_iff.1 q).1
theorem srow2_xf {X v5 : World} {b p : Nat} {e e' : Bool} {a0 b0 a' b' : Int} (g : Below X.heap.size X v5) (f2 : v5.cell? ⟨p + 1 + 1, 0, none⟩ = some (.slice (some ⟨b, 0, none⟩) 2 2)) (h : X.cell? ⟨b, 0, none⟩ = some (.bool e) ∧ X.cell? ⟨b, 1, none⟩ = some (.int .u64 a0) ∧ X.cell? ⟨b, 2, none⟩ = some (.int .u64 b0) ∧ X.cell? ⟨b, 3, none⟩ = some (.bool e') ∧ X.cell? ⟨b, 4, none⟩ = some (.int .u64 a') ∧ X.cell? ⟨b, 5, none⟩ = some (.int .u64 b')) :
    SRowf v5 b [(e, a0, b0), (e', a', b')] ∧ b < v5.heap.size := by
  obtain ⟨s0, s1, s2, s3, s4, s5⟩ := h
  refine ⟨fun j s hj => ?_, Nat.lt_of_lt_of_le (World.block_lt_of_cell? X ⟨b, 0, none⟩ s0) g.size⟩
  rcases j with _ | _ | n
  · simp at hj; subst hj
    exact ⟨sO g s0, sO g s1, sO g s2⟩
  · simp at hj; subst hj
    exact ⟨sO g s3, sO g s4, sO g s5⟩
  · simp at hj
set_option maxRecDepth 100000 in
set_option maxHeartbeats 6400000 in
theorem quot_f {L : Ln} {A : Ways} {B : Nat} {w0 : World} (H : Actsf L A B w0) (ez : ∀ args w, (callFunc L.kz args).run Tryz.prog w = .ok (.enter L.kz args) w) (T : Int) (hT : ∀ w, Calls Tryz.prog 148 #[.int .i64 L.past] w fun e w' => e = .returned (.int .i64 T) ∧ w' = w) (okp : Int → Int → Prop) (g : Int → Int → Int) (kb : Nat) (caps : Array Value) (eby : ∀ args w, (callFunc kb args).run Tryz.prog w = .ok (.enter kb args) w)
    (a b c d : Int) (z : Int) (d0 : A.dom 0) (d0' : A.dom (A.pl 0)) (o0 : A.one 0 = true) (dl : A.dom L.least) (dm : A.dom L.most) (dp : A.dom (A.prv 0)) (dn : A.dom (A.nxt 0)) (dc : A.dom c) (dd : A.dom d)
    (hx : ∀ p ∈ pairsL (false, a, b) [meetP A (false, c, d) (belowP A L 0), meetP A (false, c, d) (aboveP A L 0)], okp p.1 p.2 ∧ A.dom (g p.1 p.2) ∧ A.dom (A.pl (g p.1 p.2))) (w : World) (ok : Below B w0 w)
    (hby : ∀ x y X, okp x y → Below w.heap.size w X → Calls Tryz.prog kb (#[.int .u64 x, .int .u64 y] ++ caps) X fun e X' => e = .returned (.int .u64 (g x y)) ∧ Below X.heap.size X X')
    (hz : ∀ V, Below B w0 V → Calls Tryz.prog L.kz (#[.agg #[.bool false, .int .u64 a, .int .u64 b]] ++ L.cz) V fun e V' => e = .returned (.int .i64 z) ∧ Below V.heap.size V V') :
    Calls Tryz.prog 154 #[.agg (lvf L), .func (.func kb) #[] caps, .agg #[.bool false, .int .u64 a, .int .u64 b], .agg #[.bool false, .int .u64 c, .int .u64 d]] w fun e w' =>
      e = .returned (.tuple #[sVf (meetP A (hullP A ((pairsL (false, a, b) [meetP A (false, c, d) (belowP A L 0), meetP A (false, c, d) (aboveP A L 0)]).map fun p => g p.1 p.2)) (false, L.least, L.most)),
        .int .i64 (if hasP A (false, c, d) 0 then bits BinOp.or IntKind.i64 (trapP A L T ((pairsL (false, a, b) [meetP A (false, c, d) (belowP A L 0), meetP A (false, c, d) (aboveP A L 0)]).map fun p => g p.1 p.2)) z else trapP A L T ((pairsL (false, a, b) [meetP A (false, c, d) (belowP A L 0), meetP A (false, c, d) (aboveP A L 0)]).map fun p => g p.1 p.2))]) ∧ Below w.heap.size w w' := by
  have hB := H.hB
  have hbe : A.dom (belowP A L 0).2.1 ∧ A.dom (belowP A L 0).2.2 := by unfold belowP; split; exact ⟨d0, d0⟩; exact ⟨dl, dp⟩
  have hab : A.dom (aboveP A L 0).2.1 ∧ A.dom (aboveP A L 0).2.2 := by unfold aboveP; split; exact ⟨d0, d0⟩; exact ⟨dn, dm⟩
  have h1 := fun V ok => below_f H 0 d0 o0 dl V ok
  have h2 := fun V ok => meet_f H false (belowP A L 0).1 c d (belowP A L 0).2.1 (belowP A L 0).2.2 dc dd hbe.1 hbe.2 V ok
  have h3 := fun V ok => above_f H 0 d0 o0 dm V ok
  have h4 := fun V ok => meet_f H false (aboveP A L 0).1 c d (aboveP A L 0).2.1 (aboveP A L 0).2.2 dc dd hab.1 hab.2 V ok
  have h5 := fun V ok => has_f H false c d 0 dc dd d0 d0' V ok
  clear hbe hab
  have htold := fun gf lb w ok eg hseq => told_f H T hT gf lb ((pairsL (false, a, b) [meetP A (false, c, d) (belowP A L 0), meetP A (false, c, d) (aboveP A L 0)]).map fun p => g p.1 p.2) d0 dl dm (fun x hxm => by
    obtain ⟨p, hp, rfl⟩ := List.mem_map.1 hxm
    exact (hx p hp).2) w ok eg hseq
  have he2 := each2x_f
  have hok : ∀ q ∈ pairsL (false, a, b) [meetP A (false, c, d) (belowP A L 0), meetP A (false, c, d) (aboveP A L 0)], okp q.1 q.2 := fun q hq => (hx q hq).1
  clear hx H
  unfold mVf at h2 h4
  generalize meetP A (false, c, d) (belowP A L 0) = m1 at *
  generalize meetP A (false, c, d) (aboveP A L 0) = m2 at *
  generalize belowP A L 0 = be at *
  generalize aboveP A L 0 = ab at *
  generalize hasP A (false, c, d) 0 = hs at *
  obtain ⟨m1e, m1l, m1h⟩ := m1
  obtain ⟨m2e, m2l, m2h⟩ := m2
  obtain ⟨bee, bel, beh⟩ := be
  obtain ⟨abe, abl, abh⟩ := ab
  generalize meetP A (hullP A ((pairsL (false, a, b) [(m1e, m1l, m1h), (m2e, m2l, m2h)]).map fun p => g p.1 p.2)) (false, L.least, L.most) = R at *
  obtain ⟨me, mlo, mhi⟩ := R
  generalize trapP A L T ((pairsL (false, a, b) [(m1e, m1l, m1h), (m2e, m2l, m2h)]).map fun p => g p.1 p.2) = TR at *
  obtain ⟨TT, HTT⟩ : ∃ t, Hid (t = if hs then bits BinOp.or IntKind.i64 TR z else TR) := ⟨_, rfl⟩
  rw [← HTT.out]
  unfold sVf lvf at *
  dsimp only at *
  go_enter Tryz.func154, Tryz.ntmps154
  go_upto_region 1 with fail
  obtain ⟨W, hW⟩ : ∃ W, ((((w.alloc (.cells #[.int .u64 L.least, .int .u64 L.most, .int .i64 L.past, .func (.func L.ko) #[] L.co, .func (.func L.kp) #[] L.cp, .func (.func L.k1) #[] L.c1, .func (.func L.kv) #[] L.cv, .func (.func L.kn) #[] L.cn, .func (.func L.ku) #[] L.cu, .func (.func L.kt) #[] L.ct, .func (.func L.kz) #[] L.cz] 134)).alloc (.cells #[.bool false, .int .u64 a, .int .u64 b] 126)).alloc (.cells #[.bool false, .int .u64 c, .int .u64 d] 126)).alloc (.cells #[.bool false, .int .u64 0, .int .u64 0] 126)) = W := ⟨_, rfl⟩
  have l0 : W.cell? ⟨w.heap.size, 0, none⟩ = some (.int .u64 L.least) := by rw [← hW]; simp [go_sem]
  have l1 : W.cell? ⟨w.heap.size, 1, none⟩ = some (.int .u64 L.most) := by rw [← hW]; simp [go_sem]
  have l2 : W.cell? ⟨w.heap.size, 2, none⟩ = some (.int .i64 L.past) := by rw [← hW]; simp [go_sem]
  have l3 : W.cell? ⟨w.heap.size, 3, none⟩ = some (.func (.func L.ko) #[] L.co) := by rw [← hW]; simp [go_sem]
  have l4 : W.cell? ⟨w.heap.size, 4, none⟩ = some (.func (.func L.kp) #[] L.cp) := by rw [← hW]; simp [go_sem]
  have l5 : W.cell? ⟨w.heap.size, 5, none⟩ = some (.func (.func L.k1) #[] L.c1) := by rw [← hW]; simp [go_sem]
  have l6 : W.cell? ⟨w.heap.size, 6, none⟩ = some (.func (.func L.kv) #[] L.cv) := by rw [← hW]; simp [go_sem]
  have l7 : W.cell? ⟨w.heap.size, 7, none⟩ = some (.func (.func L.kn) #[] L.cn) := by rw [← hW]; simp [go_sem]
  have l8 : W.cell? ⟨w.heap.size, 8, none⟩ = some (.func (.func L.ku) #[] L.cu) := by rw [← hW]; simp [go_sem]
  have l9 : W.cell? ⟨w.heap.size, 9, none⟩ = some (.func (.func L.kt) #[] L.ct) := by rw [← hW]; simp [go_sem]
  have l10 : W.cell? ⟨w.heap.size, 10, none⟩ = some (.func (.func L.kz) #[] L.cz) := by rw [← hW]; simp [go_sem]
  have a0 : W.cell? ⟨w.heap.size + 1, 0, none⟩ = some (.bool false) := by rw [← hW]; simp [go_sem]
  have a1 : W.cell? ⟨w.heap.size + 1, 1, none⟩ = some (.int .u64 a) := by rw [← hW]; simp [go_sem]
  have a2 : W.cell? ⟨w.heap.size + 1, 2, none⟩ = some (.int .u64 b) := by rw [← hW]; simp [go_sem]
  have b0 : W.cell? ⟨w.heap.size + 1 + 1, 0, none⟩ = some (.bool false) := by rw [← hW]; simp [go_sem]
  have b1 : W.cell? ⟨w.heap.size + 1 + 1, 1, none⟩ = some (.int .u64 c) := by rw [← hW]; simp [go_sem]
  have b2 : W.cell? ⟨w.heap.size + 1 + 1, 2, none⟩ = some (.int .u64 d) := by rw [← hW]; simp [go_sem]
  have r0 : W.cell? ⟨w.heap.size + 1 + 1 + 1, 0, none⟩ = some (.bool false) := by rw [← hW]; simp [go_sem]
  have r1 : W.cell? ⟨w.heap.size + 1 + 1 + 1, 1, none⟩ = some (.int .u64 0) := by rw [← hW]; simp [go_sem]
  have r2 : W.cell? ⟨w.heap.size + 1 + 1 + 1, 2, none⟩ = some (.int .u64 0) := by rw [← hW]; simp [go_sem]
  have okW : Below B w0 W := by rw [← hW]; exact (ok_new hB (ok_new hB (ok_new hB (ok_new hB ok _) _) _) _)
  have bW : Below w.heap.size w W := by rw [← hW]; exact (sp_new (sp_new (sp_new (sp_new (Below.refl _ _) _) _) _) _)
  have zW : W.heap.size = w.heap.size + 4 := by rw [← hW]; simp
  have fz : ∀ j, W.frozen? ⟨w.heap.size + 1 + 1 + 1, j, none⟩ = false := by intro j; rw [← hW]; simp [go_sem]
  rw [hW]
  clear hW
  have hall : ∀ X, Below W.heap.size W X → (X.cell? ⟨w.heap.size, 0, none⟩ = some (.int .u64 L.least) ∧ X.cell? ⟨w.heap.size, 1, none⟩ = some (.int .u64 L.most) ∧ X.cell? ⟨w.heap.size, 2, none⟩ = some (.int .i64 L.past) ∧ X.cell? ⟨w.heap.size, 3, none⟩ = some (.func (.func L.ko) #[] L.co) ∧ X.cell? ⟨w.heap.size, 4, none⟩ = some (.func (.func L.kp) #[] L.cp) ∧ X.cell? ⟨w.heap.size, 5, none⟩ = some (.func (.func L.k1) #[] L.c1) ∧ X.cell? ⟨w.heap.size, 6, none⟩ = some (.func (.func L.kv) #[] L.cv) ∧ X.cell? ⟨w.heap.size, 7, none⟩ = some (.func (.func L.kn) #[] L.cn) ∧ X.cell? ⟨w.heap.size, 8, none⟩ = some (.func (.func L.ku) #[] L.cu) ∧ X.cell? ⟨w.heap.size, 9, none⟩ = some (.func (.func L.kt) #[] L.ct) ∧ X.cell? ⟨w.heap.size, 10, none⟩ = some (.func (.func L.kz) #[] L.cz) ∧ X.cell? ⟨w.heap.size + 1, 0, none⟩ = some (.bool false) ∧ X.cell? ⟨w.heap.size + 1, 1, none⟩ = some (.int .u64 a) ∧ X.cell? ⟨w.heap.size + 1, 2, none⟩ = some (.int .u64 b) ∧ X.cell? ⟨w.heap.size + 1 + 1, 0, none⟩ = some (.bool false) ∧ X.cell? ⟨w.heap.size + 1 + 1, 1, none⟩ = some (.int .u64 c) ∧ X.cell? ⟨w.heap.size + 1 + 1, 2, none⟩ = some (.int .u64 d)) := fun X cc => ⟨sO cc l0, sO cc l1, sO cc l2, sO cc l3, sO cc l4, sO cc l5, sO cc l6, sO cc l7, sO cc l8, sO cc l9, sO cc l10, sO cc a0, sO cc a1, sO cc a2, sO cc b0, sO cc b1, sO cc b2⟩
  have okc : ∀ X, Below W.heap.size W X → Below B w0 X := fun X cc => ok_call hB okW cc
  have cc : Below W.heap.size W W := Below.refl _ _
  clear okW
  replace zW := Nat.le_of_eq zW.symm
  go_cut [10, 11] from 12 to 30 (fun s t X => ∃ b : Nat, s = .pointer (some ⟨b, 0, none⟩) ∧ t = .int .i64 TR ∧ W.heap.size ≤ b ∧ X.cell? ⟨b, 0, none⟩ = some (.bool me) ∧ X.cell? ⟨b, 1, none⟩ = some (.int .u64 mlo) ∧ X.cell? ⟨b, 2, none⟩ = some (.int .u64 mhi) ∧ Below W.heap.size W X)
  case first =>
   go_region_held3 (fun w' => w'.cell? ⟨w.heap.size, 0, none⟩ = some (.int .u64 L.least) ∧ w'.cell? ⟨w.heap.size, 1, none⟩ = some (.int .u64 L.most) ∧ w'.cell? ⟨w.heap.size, 2, none⟩ = some (.int .i64 L.past) ∧ w'.cell? ⟨w.heap.size, 3, none⟩ = some (.func (.func L.ko) #[] L.co) ∧ w'.cell? ⟨w.heap.size, 4, none⟩ = some (.func (.func L.kp) #[] L.cp) ∧ w'.cell? ⟨w.heap.size, 5, none⟩ = some (.func (.func L.k1) #[] L.c1) ∧ w'.cell? ⟨w.heap.size, 6, none⟩ = some (.func (.func L.kv) #[] L.cv) ∧ w'.cell? ⟨w.heap.size, 7, none⟩ = some (.func (.func L.kn) #[] L.cn) ∧ w'.cell? ⟨w.heap.size, 8, none⟩ = some (.func (.func L.ku) #[] L.cu) ∧ w'.cell? ⟨w.heap.size, 9, none⟩ = some (.func (.func L.kt) #[] L.ct) ∧ w'.cell? ⟨w.heap.size, 10, none⟩ = some (.func (.func L.kz) #[] L.cz) ∧ w'.cell? ⟨w.heap.size + 1, 0, none⟩ = some (.bool false) ∧ w'.cell? ⟨w.heap.size + 1, 1, none⟩ = some (.int .u64 a) ∧ w'.cell? ⟨w.heap.size + 1, 2, none⟩ = some (.int .u64 b) ∧ w'.cell? ⟨w.heap.size + 1 + 1, 0, none⟩ = some (.bool false) ∧ w'.cell? ⟨w.heap.size + 1 + 1, 1, none⟩ = some (.int .u64 c) ∧ w'.cell? ⟨w.heap.size + 1 + 1, 2, none⟩ = some (.int .u64 d)) (exact hall _ (by first | exact cc | exact cc.drew | exact sp_new cc _ | exact (sp_new cc _).drew | exact sp_new cc.drew _ | exact sp_new (sp_new cc _) _ | exact sp_set3 cc (by omega) _ _ _ | exact (sp_set3 cc (by omega) _ _ _).drew))
    (first
      | (go_at_call 190; refine (h1 _ (okc _ (by first | exact cc | exact cc.drew | exact sp_new cc _ | exact (sp_new cc _).drew | exact sp_new cc.drew _ | exact sp_new (sp_new cc _) _))).mono ?_; rintro e v1 ⟨rfl, g⟩; replace cc := sp_call (show Below W.heap.size W _ by first | exact cc | exact cc.drew | exact sp_new cc _ | exact (sp_new cc _).drew | exact sp_new cc.drew _ | exact sp_new (sp_new cc _) _) g; have zcv1 := cc.size; (try first | (have qb := carry1f (o := Obj.cells #[.bool false, .int .u64 0, .int .u64 0] 126 (0, 0)) g (by assumption)) | (have qb := carry2f (o := Obj.cells #[.bool false, .int .u64 0, .int .u64 0] 126 (0, 0)) g (by assumption)) | (have qb := carry3f (o := Obj.cells #[.bool false, .int .u64 0, .int .u64 0] 126 (0, 0)) g (by assumption))); (try have qb : v1.heap[W.heap.size]? = some (Obj.cells #[.bool false, .int .u64 0, .int .u64 0] 126 (0, 0)) := (g.block _ (show W.heap.size < (World.alloc W _).heap.size by simp)).trans (World.alloc_heap_new W (Obj.cells #[.bool false, .int .u64 0, .int .u64 0] 126 (0, 0)))); (try first | (have qb : v1.heap[W.heap.size]? = some (Obj.cells #[.bool false, .int .u64 0, .int .u64 0] 126 (0, 0)) := carry1f g (World.alloc_heap_new W.drew (Obj.cells #[.bool false, .int .u64 0, .int .u64 0] 126 (0, 0)))) | (have qb : v1.heap[W.heap.size]? = some (Obj.cells #[.bool false, .int .u64 0, .int .u64 0] 126 (0, 0)) := carry1f g (show (World.drew (World.alloc W (Obj.cells #[.bool false, .int .u64 0, .int .u64 0] 126 (0, 0)))).heap[W.heap.size]? = some (Obj.cells #[.bool false, .int .u64 0, .int .u64 0] 126 (0, 0)) from World.alloc_heap_new W (Obj.cells #[.bool false, .int .u64 0, .int .u64 0] 126 (0, 0)))) | skip); skip; clear h1)
      | (go_at_call 189; refine (h2 _ (okc _ (by first | exact cc | exact cc.drew | exact sp_new cc _ | exact (sp_new cc _).drew | exact sp_new cc.drew _ | exact sp_new (sp_new cc _) _))).mono ?_; rintro e v2 ⟨rfl, g⟩; replace cc := sp_call (show Below W.heap.size W _ by first | exact cc | exact cc.drew | exact sp_new cc _ | exact (sp_new cc _).drew | exact sp_new cc.drew _ | exact sp_new (sp_new cc _) _) g; have zcv2 := cc.size; (try first | (have qb := carry1f (o := Obj.cells #[.bool false, .int .u64 0, .int .u64 0] 126 (0, 0)) g (by assumption)) | (have qb := carry2f (o := Obj.cells #[.bool false, .int .u64 0, .int .u64 0] 126 (0, 0)) g (by assumption)) | (have qb := carry3f (o := Obj.cells #[.bool false, .int .u64 0, .int .u64 0] 126 (0, 0)) g (by assumption))); (try have qb : v2.heap[v1.heap.size]? = some (Obj.cells #[.bool false, .int .u64 0, .int .u64 0] 126 (0, 0)) := (g.block _ (show v1.heap.size < (World.alloc v1 _).heap.size by simp)).trans (World.alloc_heap_new v1 (Obj.cells #[.bool false, .int .u64 0, .int .u64 0] 126 (0, 0)))); skip; clear h2)
      | (go_at_call 191; refine (h3 _ (okc _ (by first | exact cc | exact cc.drew | exact sp_new cc _ | exact (sp_new cc _).drew | exact sp_new cc.drew _ | exact sp_new (sp_new cc _) _))).mono ?_; rintro e v3 ⟨rfl, g⟩; replace cc := sp_call (show Below W.heap.size W _ by first | exact cc | exact cc.drew | exact sp_new cc _ | exact (sp_new cc _).drew | exact sp_new cc.drew _ | exact sp_new (sp_new cc _) _) g; have zcv3 := cc.size; (try first | (have qb := carry1f (o := Obj.cells #[.bool false, .int .u64 0, .int .u64 0] 126 (0, 0)) g (by assumption)) | (have qb := carry2f (o := Obj.cells #[.bool false, .int .u64 0, .int .u64 0] 126 (0, 0)) g (by assumption)) | (have qb := carry3f (o := Obj.cells #[.bool false, .int .u64 0, .int .u64 0] 126 (0, 0)) g (by assumption))); (try have qb : v3.heap[v2.heap.size]? = some (Obj.cells #[.bool false, .int .u64 0, .int .u64 0] 126 (0, 0)) := (g.block _ (show v2.heap.size < (World.alloc v2 _).heap.size by simp)).trans (World.alloc_heap_new v2 (Obj.cells #[.bool false, .int .u64 0, .int .u64 0] 126 (0, 0)))); skip; clear h3)
      | (go_at_call 189; refine (h4 _ (okc _ (by first | exact cc | exact cc.drew | exact sp_new cc _ | exact (sp_new cc _).drew | exact sp_new cc.drew _ | exact sp_new (sp_new cc _) _))).mono ?_; rintro e v4 ⟨rfl, g⟩; replace cc := sp_call (show Below W.heap.size W _ by first | exact cc | exact cc.drew | exact sp_new cc _ | exact (sp_new cc _).drew | exact sp_new cc.drew _ | exact sp_new (sp_new cc _) _) g; have zcv4 := cc.size; (try first | (have qb := carry1f (o := Obj.cells #[.bool false, .int .u64 0, .int .u64 0] 126 (0, 0)) g (by assumption)) | (have qb := carry2f (o := Obj.cells #[.bool false, .int .u64 0, .int .u64 0] 126 (0, 0)) g (by assumption)) | (have qb := carry3f (o := Obj.cells #[.bool false, .int .u64 0, .int .u64 0] 126 (0, 0)) g (by assumption))); (try have qb : v4.heap[v3.heap.size]? = some (Obj.cells #[.bool false, .int .u64 0, .int .u64 0] 126 (0, 0)) := (g.block _ (show v3.heap.size < (World.alloc v3 _).heap.size by simp)).trans (World.alloc_heap_new v3 (Obj.cells #[.bool false, .int .u64 0, .int .u64 0] 126 (0, 0)))); skip; clear h4)
      | (go_at_call 156; refine (he2 _ _ _ _ _ _ _ _ _).mono ?_; rintro e v5 ⟨p, rfl, f0, f1, f2, hp, g⟩; have srow := srow2_xf g f2 (by simp [go_sem]; exact ⟨rfl, rfl, rfl, rfl, rfl, rfl⟩); replace cc := sp_call (show Below W.heap.size W _ by first | exact cc | exact cc.drew | exact sp_new cc _ | exact (sp_new cc _).drew | exact sp_new cc.drew _ | exact sp_new (sp_new cc _) _) g; have zcv5 := cc.size; (try first | (have qb := carry1f (o := Obj.cells #[.bool false, .int .u64 0, .int .u64 0] 126 (0, 0)) g (by assumption)) | (have qb := carry2f (o := Obj.cells #[.bool false, .int .u64 0, .int .u64 0] 126 (0, 0)) g (by assumption)) | (have qb := carry3f (o := Obj.cells #[.bool false, .int .u64 0, .int .u64 0] 126 (0, 0)) g (by assumption))); (try have qb : v5.heap[v4.heap.size]? = some (Obj.cells #[.bool false, .int .u64 0, .int .u64 0] 126 (0, 0)) := (g.block _ (show v4.heap.size < (World.alloc v4 _).heap.size by simp)).trans (World.alloc_heap_new v4 (Obj.cells #[.bool false, .int .u64 0, .int .u64 0] 126 (0, 0)))); (try have qb : v5.heap[v4.heap.size + 1]? = some (Obj.cells #[.bool false, .int .u64 0, .int .u64 0] 126 (0, 0)) := newerf g); (try have qb : v5.heap[v4.heap.size]? = some (Obj.cells #[.bool false, .int .u64 0, .int .u64 0] 126 (0, 0)) := elderf g); skip)
      | (go_at_call 155; refine (htold _ _ _ (okc _ (show Below W.heap.size W _ by first | exact cc | exact cc.drew | exact sp_new cc _ | exact (sp_new cc _).drew | exact sp_new cc.drew _ | exact sp_new (sp_new cc _) _)) (enters_of Tryz.func194 (by kernel_rfl) rfl) (fun S W0 hW hSS => feeds2_f (ls := [(m1e, m1l, m1h), (m2e, m2l, m2h)]) f0 f1 f2 srow.1 (by simp) hp srow.2 eby hby hok (sp_call bW cc) (sp_call (show Below v5.heap.size v5 _ by first | exact Below.refl _ _ | exact (Below.refl _ _).drew | exact sp_new (Below.refl _ _) _ | exact (sp_new (Below.refl _ _) _).drew) hW) (fun k hk => ⟨Nat.le_trans (show Below v5.heap.size v5 _ by first | exact Below.refl _ _ | exact (Below.refl _ _).drew | exact sp_new (Below.refl _ _) _ | exact (sp_new (Below.refl _ _) _).drew).size (hSS k hk).1, (hSS k hk).2⟩))).mono ?_; rintro e v6 ⟨rfl, g⟩; replace cc := sp_call (show Below W.heap.size W _ by first | exact cc | exact cc.drew | exact sp_new cc _ | exact (sp_new cc _).drew | exact sp_new cc.drew _ | exact sp_new (sp_new cc _) _) g; have zcv6 := cc.size; (try first | (have qb := carry1f (o := Obj.cells #[.bool false, .int .u64 0, .int .u64 0] 126 (0, 0)) g (by assumption)) | (have qb := carry2f (o := Obj.cells #[.bool false, .int .u64 0, .int .u64 0] 126 (0, 0)) g (by assumption)) | (have qb := carry3f (o := Obj.cells #[.bool false, .int .u64 0, .int .u64 0] 126 (0, 0)) g (by assumption))); (try have qb : v6.heap[v5.heap.size]? = some (Obj.cells #[.bool false, .int .u64 0, .int .u64 0] 126 (0, 0)) := (g.block _ (show v5.heap.size < (World.alloc v5 _).heap.size by simp)).trans (World.alloc_heap_new v5 (Obj.cells #[.bool false, .int .u64 0, .int .u64 0] 126 (0, 0)))); (try first | (have hlt := bltf (v := v6) (o := Obj.cells #[.bool false, .int .u64 0, .int .u64 0] 126 (0, 0)) (by assumption)) | skip); (try first | (have hq := zcellsf (v := v6) (t := 126) (by assumption); obtain ⟨q0, q1, q2, qf⟩ := hq) | skip); skip)
      | fail)
   all_goals go_wp2_with fail
   all_goals go_meet
   all_goals exact ⟨_, rfl, rfl, by omega, by first | (simp [go_sem]; done) | (simp [go_sem, q0, q1, q2]; done), by first | (simp [go_sem]; done) | (simp [go_sem, q0, q1, q2]; done), by first | (simp [go_sem]; done) | (simp [go_sem, q0, q1, q2]; done), by first | exact sp_new cc _ | exact sp_set3 cc (by omega) _ _ _⟩
  case rest =>
   obtain ⟨bq, rfl, rfl, hbq, t0, t1, t2, cX⟩ := hcut
   have hl := hall _ cX
   clear l0 l1 l2 l3 l4 l5 l6 l7 l8 l9 l10 a0 a1 a2 b0 b1 b2
   obtain ⟨l0, l1, l2, l3, l4, l5, l6, l7, l8, l9, l10, a0, a1, a2, b0, b1, b2⟩ := hl
   replace r0 := sO cX r0
   replace r1 := sO cX r1
   replace r2 := sO cX r2
   replace fz := fun j => (cX.frozen (p := ⟨w.heap.size + 1 + 1 + 1, j, none⟩) (by simp; omega)).trans (fz j)
   have zX := cX.size
   have bX := sp_call bW cX
   clear hall cc
   cases hs
   · go_wp2_with (first
       | (go_at_call 147; refine (h5 _ (okc _ cX)).mono ?_; rintro e v7 ⟨rfl, g⟩; replace fz := fun j => (g.frozen (p := ⟨w.heap.size + 1 + 1 + 1, j, none⟩) (by simp; omega)).trans (fz j); have zv7 := g.size; replace cX := sp_call cX g; replace bX := sp_call bX g; replace l0 := sO g l0; replace l1 := sO g l1; replace l2 := sO g l2; replace l3 := sO g l3; replace l4 := sO g l4; replace l5 := sO g l5; replace l6 := sO g l6; replace l7 := sO g l7; replace l8 := sO g l8; replace l9 := sO g l9; replace l10 := sO g l10; replace a0 := sO g a0; replace a1 := sO g a1; replace a2 := sO g a2; replace b0 := sO g b0; replace b1 := sO g b1; replace b2 := sO g b2; replace t0 := sO g t0; replace t1 := sO g t1; replace t2 := sO g t2; replace r0 := sO g r0; replace r1 := sO g r1; replace r2 := sO g r2; clear g)
       | fail)
     exact bodyPost_ret (v := .tuple #[.agg #[.bool me, .int .u64 mlo, .int .u64 mhi], .int .i64 TR]) (by simp [results, Tryz.results154, go_sem, r0, r1, r2]) rfl ⟨by rw [HTT.out]; simp, sp_set3 bX (by omega) _ _ _⟩
   · go_wp2_with (first
       | (go_at_call 147; refine (h5 _ (okc _ cX)).mono ?_; rintro e v7 ⟨rfl, g⟩; replace fz := fun j => (g.frozen (p := ⟨w.heap.size + 1 + 1 + 1, j, none⟩) (by simp; omega)).trans (fz j); have zv7 := g.size; replace cX := sp_call cX g; replace bX := sp_call bX g; replace l0 := sO g l0; replace l1 := sO g l1; replace l2 := sO g l2; replace l3 := sO g l3; replace l4 := sO g l4; replace l5 := sO g l5; replace l6 := sO g l6; replace l7 := sO g l7; replace l8 := sO g l8; replace l9 := sO g l9; replace l10 := sO g l10; replace a0 := sO g a0; replace a1 := sO g a1; replace a2 := sO g a2; replace b0 := sO g b0; replace b1 := sO g b1; replace b2 := sO g b2; replace t0 := sO g t0; replace t1 := sO g t1; replace t2 := sO g t2; replace r0 := sO g r0; replace r1 := sO g r1; replace r2 := sO g r2; clear g)
       | (go_at_fn L.kz; refine (hz _ (okc _ cX)).mono ?_; rintro e v8 ⟨rfl, g⟩; replace fz := fun j => (g.frozen (p := ⟨w.heap.size + 1 + 1 + 1, j, none⟩) (by simp; omega)).trans (fz j); have zv8 := g.size; replace cX := sp_call cX g; replace bX := sp_call bX g; replace l0 := sO g l0; replace l1 := sO g l1; replace l2 := sO g l2; replace l3 := sO g l3; replace l4 := sO g l4; replace l5 := sO g l5; replace l6 := sO g l6; replace l7 := sO g l7; replace l8 := sO g l8; replace l9 := sO g l9; replace l10 := sO g l10; replace a0 := sO g a0; replace a1 := sO g a1; replace a2 := sO g a2; replace b0 := sO g b0; replace b1 := sO g b1; replace b2 := sO g b2; replace t0 := sO g t0; replace t1 := sO g t1; replace t2 := sO g t2; replace r0 := sO g r0; replace r1 := sO g r1; replace r2 := sO g r2; clear g)
       | fail)
     exact bodyPost_ret (v := .tuple #[.agg #[.bool me, .int .u64 mlo, .int .u64 mhi], .int .i64 (bits BinOp.or IntKind.i64 TR z)]) (by simp [results, Tryz.results154, go_sem, r0, r1, r2]) rfl ⟨by rw [HTT.out]; simp, sp_set3 bX (by omega) _ _ _⟩
end Go.Proofs.YteafnkimcidkhaaGreat


namespace Go.Proofs.YteafnkimcidkhaaGreat
open Go.RowKit
set_option linter.unusedVariables false
set_option linter.unusedSimpArgs false
set_option maxRecDepth 100000 in
set_option maxHeartbeats 6400000 in
theorem twod_f {L : Ln} {A : Ways} {B : Nat} {w0 : World} (H : Actsf L A B w0) (et : ∀ args w, (callFunc L.kt args).run Tryz.prog w = .ok (.enter L.kt args) w) (ez : ∀ args w, (callFunc L.kz args).run Tryz.prog w = .ok (.enter L.kz args) w) (T : Int) (hT : ∀ w, Calls Tryz.prog 148 #[.int .i64 L.past] w fun e w' => e = .returned (.int .i64 T) ∧ w' = w) (okp : Int → Int → Prop) (g : Int → Int → Int) (h2 : By2f L A B w0 11 okp g)
    (a b c d : Int) (z : Int) (d0 : A.dom 0) (d0' : A.dom (A.pl 0)) (o0 : A.one 0 = true) (dl : A.dom L.least) (dm : A.dom L.most) (dp : A.dom (A.prv 0)) (dn : A.dom (A.nxt 0)) (dc : A.dom c) (dd : A.dom d)
    (hx : ∀ p ∈ pairsL (false, a, b) [meetP A (false, c, d) (belowP A L 0), meetP A (false, c, d) (aboveP A L 0)], okp p.1 p.2 ∧ A.dom (g p.1 p.2) ∧ A.dom (A.pl (g p.1 p.2))) (w : World) (ok : Below B w0 w)
    (hz : ∀ V, Below B w0 V → Calls Tryz.prog L.kz (#[.agg #[.bool false, .int .u64 a, .int .u64 b]] ++ L.cz) V fun e V' => e = .returned (.int .i64 z) ∧ Below V.heap.size V V') :
    Calls Tryz.prog 103 #[.agg (lvf L), .int .i64 11, .agg #[.bool false, .int .u64 a, .int .u64 b], .agg #[.bool false, .int .u64 c, .int .u64 d]] w fun e w' =>
      e = .returned (.tuple #[sVf (meetP A (hullP A ((pairsL (false, a, b) [meetP A (false, c, d) (belowP A L 0), meetP A (false, c, d) (aboveP A L 0)]).map fun p => g p.1 p.2)) (false, L.least, L.most)), .int .i64 (if hasP A (false, c, d) 0 then bits BinOp.or IntKind.i64 (trapP A L T ((pairsL (false, a, b) [meetP A (false, c, d) (belowP A L 0), meetP A (false, c, d) (aboveP A L 0)]).map fun p => g p.1 p.2)) z else trapP A L T ((pairsL (false, a, b) [meetP A (false, c, d) (belowP A L 0), meetP A (false, c, d) (aboveP A L 0)]).map fun p => g p.1 p.2))]) ∧ Below w.heap.size w w' := by
  have hB := H.hB
  have hq := fun kb caps eby w ok hby => quot_f H ez T hT okp g kb caps eby a b c d z d0 d0' o0 dl dm dp dn dc dd hx w ok hby hz
  clear hx
  generalize (if hasP A (false, c, d) 0 then bits BinOp.or IntKind.i64 (trapP A L T ((pairsL (false, a, b) [meetP A (false, c, d) (belowP A L 0), meetP A (false, c, d) (aboveP A L 0)]).map fun p => g p.1 p.2)) z else trapP A L T ((pairsL (false, a, b) [meetP A (false, c, d) (belowP A L 0), meetP A (false, c, d) (aboveP A L 0)]).map fun p => g p.1 p.2)) = TR at *
  generalize meetP A (hullP A ((pairsL (false, a, b) [meetP A (false, c, d) (belowP A L 0), meetP A (false, c, d) (aboveP A L 0)]).map fun p => g p.1 p.2)) (false, L.least, L.most) = R at *
  obtain ⟨me, mlo, mhi⟩ := R
  unfold sVf lvf at *
  dsimp only at *
  have hb := h2
  unfold By2f at hb
  go_enter Tryz.func103, Tryz.ntmps103
  go_wp2_with fail
  obtain ⟨W, hW⟩ : ∃ W, ((((w.alloc (.cells #[.int .u64 L.least, .int .u64 L.most, .int .i64 L.past, .func (.func L.ko) #[] L.co, .func (.func L.kp) #[] L.cp, .func (.func L.k1) #[] L.c1, .func (.func L.kv) #[] L.cv, .func (.func L.kn) #[] L.cn, .func (.func L.ku) #[] L.cu, .func (.func L.kt) #[] L.ct, .func (.func L.kz) #[] L.cz] 134)).alloc (.cells #[.bool false, .int .u64 a, .int .u64 b] 126)).alloc (.cells #[.bool false, .int .u64 c, .int .u64 d] 126)).alloc (.cells #[.bool false, .int .u64 0, .int .u64 0] 126)) = W := ⟨_, rfl⟩
  have l0 : W.cell? ⟨w.heap.size, 0, none⟩ = some (.int .u64 L.least) := by rw [← hW]; simp [go_sem]
  have l1 : W.cell? ⟨w.heap.size, 1, none⟩ = some (.int .u64 L.most) := by rw [← hW]; simp [go_sem]
  have l2 : W.cell? ⟨w.heap.size, 2, none⟩ = some (.int .i64 L.past) := by rw [← hW]; simp [go_sem]
  have l3 : W.cell? ⟨w.heap.size, 3, none⟩ = some (.func (.func L.ko) #[] L.co) := by rw [← hW]; simp [go_sem]
  have l4 : W.cell? ⟨w.heap.size, 4, none⟩ = some (.func (.func L.kp) #[] L.cp) := by rw [← hW]; simp [go_sem]
  have l5 : W.cell? ⟨w.heap.size, 5, none⟩ = some (.func (.func L.k1) #[] L.c1) := by rw [← hW]; simp [go_sem]
  have l6 : W.cell? ⟨w.heap.size, 6, none⟩ = some (.func (.func L.kv) #[] L.cv) := by rw [← hW]; simp [go_sem]
  have l7 : W.cell? ⟨w.heap.size, 7, none⟩ = some (.func (.func L.kn) #[] L.cn) := by rw [← hW]; simp [go_sem]
  have l8 : W.cell? ⟨w.heap.size, 8, none⟩ = some (.func (.func L.ku) #[] L.cu) := by rw [← hW]; simp [go_sem]
  have l9 : W.cell? ⟨w.heap.size, 9, none⟩ = some (.func (.func L.kt) #[] L.ct) := by rw [← hW]; simp [go_sem]
  have l10 : W.cell? ⟨w.heap.size, 10, none⟩ = some (.func (.func L.kz) #[] L.cz) := by rw [← hW]; simp [go_sem]
  have a0 : W.cell? ⟨w.heap.size + 1, 0, none⟩ = some (.bool false) := by rw [← hW]; simp [go_sem]
  have a1 : W.cell? ⟨w.heap.size + 1, 1, none⟩ = some (.int .u64 a) := by rw [← hW]; simp [go_sem]
  have a2 : W.cell? ⟨w.heap.size + 1, 2, none⟩ = some (.int .u64 b) := by rw [← hW]; simp [go_sem]
  have b0 : W.cell? ⟨w.heap.size + 1 + 1, 0, none⟩ = some (.bool false) := by rw [← hW]; simp [go_sem]
  have b1 : W.cell? ⟨w.heap.size + 1 + 1, 1, none⟩ = some (.int .u64 c) := by rw [← hW]; simp [go_sem]
  have b2 : W.cell? ⟨w.heap.size + 1 + 1, 2, none⟩ = some (.int .u64 d) := by rw [← hW]; simp [go_sem]
  have r0 : W.cell? ⟨w.heap.size + 1 + 1 + 1, 0, none⟩ = some (.bool false) := by rw [← hW]; simp [go_sem]
  have r1 : W.cell? ⟨w.heap.size + 1 + 1 + 1, 1, none⟩ = some (.int .u64 0) := by rw [← hW]; simp [go_sem]
  have r2 : W.cell? ⟨w.heap.size + 1 + 1 + 1, 2, none⟩ = some (.int .u64 0) := by rw [← hW]; simp [go_sem]
  have okW : Below B w0 W := by rw [← hW]; exact (ok_new hB (ok_new hB (ok_new hB (ok_new hB ok _) _) _) _)
  have bW : Below w.heap.size w W := by rw [← hW]; exact (sp_new (sp_new (sp_new (sp_new (Below.refl _ _) _) _) _) _)
  have zW : W.heap.size = w.heap.size + 4 := by rw [← hW]; simp
  have fz : ∀ j, W.frozen? ⟨w.heap.size + 1 + 1 + 1, j, none⟩ = false := by intro j; rw [← hW]; simp [go_sem]
  rw [hW]
  clear hW
  with_reducible refine (hb _ okW).mono ?_
  rintro e v1 ⟨g1, kb, caps, rfl, eby, hby⟩
  replace fz := fun j => (g1.frozen (p := ⟨w.heap.size + 1 + 1 + 1, j, none⟩) (by simp; omega)).trans (fz j)
  have z1 := g1.size
  replace okW := ok_call hB okW g1
  replace bW := sp_call bW g1
  replace l0 := sO g1 l0; replace l1 := sO g1 l1; replace l2 := sO g1 l2; replace l3 := sO g1 l3; replace l4 := sO g1 l4; replace l5 := sO g1 l5; replace l6 := sO g1 l6; replace l7 := sO g1 l7; replace l8 := sO g1 l8; replace l9 := sO g1 l9; replace l10 := sO g1 l10; replace a0 := sO g1 a0; replace a1 := sO g1 a1; replace a2 := sO g1 a2; replace b0 := sO g1 b0; replace b1 := sO g1 b1; replace b2 := sO g1 b2; replace r0 := sO g1 r0; replace r1 := sO g1 r1; replace r2 := sO g1 r2
  have hn := fn_nil_f kb caps
  go_wp2_with (first
    | (go_at_call 154; refine (hq kb caps eby _ okW hby).mono ?_; rintro e v2 ⟨rfl, g2⟩; replace fz := fun j => (g2.frozen (p := ⟨w.heap.size + 1 + 1 + 1, j, none⟩) (by simp; omega)).trans (fz j); have z2 := g2.size; replace bW := sp_call bW g2; replace l0 := sO g2 l0; replace l1 := sO g2 l1; replace l2 := sO g2 l2; replace l3 := sO g2 l3; replace l4 := sO g2 l4; replace l5 := sO g2 l5; replace l6 := sO g2 l6; replace l7 := sO g2 l7; replace l8 := sO g2 l8; replace l9 := sO g2 l9; replace l10 := sO g2 l10; replace a0 := sO g2 a0; replace a1 := sO g2 a1; replace a2 := sO g2 a2; replace b0 := sO g2 b0; replace b1 := sO g2 b1; replace b2 := sO g2 b2; replace r0 := sO g2 r0; replace r1 := sO g2 r1; replace r2 := sO g2 r2)
    | fail)
  exact bodyPost_ret (v := .tuple #[.agg #[.bool me, .int .u64 mlo, .int .u64 mhi], .int .i64 TR]) (by simp [results, Tryz.results103, go_sem, r0, r1, r2]) rfl ⟨rfl, sp_set3 bW (by omega) _ _ _⟩
end Go.Proofs.YteafnkimcidkhaaGreat


namespace Go.Proofs.YteafnkimcidkhaaGreat
open Go.RowKit
set_option linter.unusedVariables false
set_option linter.unusedSimpArgs false
def gF (op : Int) (s : Bool) (x y : Int) : Int := if op = 8 then addF s 0 x y else if op = 9 then subF s 0 x y else if op = 10 then mulF s 0 x y else divF s 0 x y
set_option maxRecDepth 100000 in
set_option maxHeartbeats 6400000 in
theorem fbt_add (f : Int) (V : World) : Calls Tryz.prog 143 #[.int .i64 f, .int .i64 8] V fun e V' => Below V.heap.size V V' ∧ e = .returned (.func (.func 180) #[] #[.pointer (some ⟨V.heap.size + 1, 0, none⟩), .pointer (some ⟨V.heap.size, 0, none⟩)]) ∧ V'.cell? ⟨V.heap.size + 1, 0, none⟩ = some (.func (.func 54) #[] #[]) ∧ V'.cell? ⟨V.heap.size, 0, none⟩ = some (.int .i64 f) := by
  go_enter Tryz.func143, Tryz.ntmps143
  go_wp2_with fail
  go_ret
  exact ⟨sp_new (sp_new (Below.refl _ _) _) _, rfl, by simp [go_sem], by simp [go_sem]⟩
set_option maxRecDepth 100000 in
set_option maxHeartbeats 6400000 in
theorem fb1_add (f x y : Int) (hx : Word x) (hy : Word y) (p q : Nat) (X : World) (c1 : X.cell? ⟨p, 0, none⟩ = some (.func (.func 54) #[] #[])) (c2 : X.cell? ⟨q, 0, none⟩ = some (.int .i64 f)) :
    Calls Tryz.prog 180 #[.int .u64 x, .int .u64 y, .pointer (some ⟨p, 0, none⟩), .pointer (some ⟨q, 0, none⟩)] X fun e X' => e = .returned (.int .u64 (gF 8 (f == 1) x y)) ∧ Below X.heap.size X X' := by
  have h := add_fl f 0 x y hx hy
  have e : gF 8 (f == 1) x y = addF (f == 1) 0 x y := by simp [gF]
  rw [e]
  clear e
  generalize addF (f == 1) 0 x y = r at *
  have ef := enters_of Tryz.func54 (by kernel_rfl) rfl
  go_enter Tryz.func180, Tryz.ntmps180
  go_wp2_with (first
    | (go_at_call 54; refine (h _).mono ?_; rintro e X1 ⟨rfl, g⟩)
    | fail)
  go_ret
  exact ⟨rfl, g⟩
set_option maxRecDepth 100000 in
set_option maxHeartbeats 6400000 in
theorem f6_add (f : Int) (p : Nat) (V : World) (c : V.cell? ⟨p, 0, none⟩ = some (.int .i64 f)) : Calls Tryz.prog 142 #[.int .i64 8, .pointer (some ⟨p, 0, none⟩)] V fun e V' => Below V.heap.size V V' ∧ ∃ kb caps, e = .returned (.func (.func kb) #[] caps) ∧ (∀ args w, (callFunc kb args).run Tryz.prog w = .ok (.enter kb args) w)
    ∧ ∀ x y X, (Word x ∧ Word y) → Below V'.heap.size V' X → Calls Tryz.prog kb (#[.int .u64 x, .int .u64 y] ++ caps) X fun e X' => e = .returned (.int .u64 (gF 8 (f == 1) x y)) ∧ Below X.heap.size X X' := by
  have h := fbt_add f
  go_enter Tryz.func142, Tryz.ntmps142
  go_wp2_with (go_at_call 143; refine (h _).mono ?_; rintro e V1 ⟨g, rfl, c1, c2⟩)
  go_ret
  exact ⟨g, _, _, rfl, enters_of Tryz.func180 (by kernel_rfl) rfl, fun x y X hxy bX => fb1_add f x y hxy.1 hxy.2 _ _ X (sO bX c1) (sO bX c2)⟩
set_option maxRecDepth 100000 in
set_option maxHeartbeats 6400000 in
theorem fbt_sub (f : Int) (V : World) : Calls Tryz.prog 143 #[.int .i64 f, .int .i64 9] V fun e V' => Below V.heap.size V V' ∧ e = .returned (.func (.func 180) #[] #[.pointer (some ⟨V.heap.size + 1, 0, none⟩), .pointer (some ⟨V.heap.size, 0, none⟩)]) ∧ V'.cell? ⟨V.heap.size + 1, 0, none⟩ = some (.func (.func 178) #[] #[]) ∧ V'.cell? ⟨V.heap.size, 0, none⟩ = some (.int .i64 f) := by
  go_enter Tryz.func143, Tryz.ntmps143
  go_wp2_with fail
  go_ret
  exact ⟨sp_new (sp_new (Below.refl _ _) _) _, rfl, by simp [go_sem], by simp [go_sem]⟩
set_option maxRecDepth 100000 in
set_option maxHeartbeats 6400000 in
theorem fb1_sub (f x y : Int) (hx : Word x) (hy : Word y) (p q : Nat) (X : World) (c1 : X.cell? ⟨p, 0, none⟩ = some (.func (.func 178) #[] #[])) (c2 : X.cell? ⟨q, 0, none⟩ = some (.int .i64 f)) :
    Calls Tryz.prog 180 #[.int .u64 x, .int .u64 y, .pointer (some ⟨p, 0, none⟩), .pointer (some ⟨q, 0, none⟩)] X fun e X' => e = .returned (.int .u64 (gF 9 (f == 1) x y)) ∧ Below X.heap.size X X' := by
  have h := sub_fl f 0 x y hx hy
  have e : gF 9 (f == 1) x y = subF (f == 1) 0 x y := by simp [gF]
  rw [e]
  clear e
  generalize subF (f == 1) 0 x y = r at *
  have ef := enters_of Tryz.func178 (by kernel_rfl) rfl
  go_enter Tryz.func180, Tryz.ntmps180
  go_wp2_with (first
    | (go_at_call 178; refine (h _).mono ?_; rintro e X1 ⟨rfl, g⟩)
    | fail)
  go_ret
  exact ⟨rfl, g⟩
set_option maxRecDepth 100000 in
set_option maxHeartbeats 6400000 in
theorem f6_sub (f : Int) (p : Nat) (V : World) (c : V.cell? ⟨p, 0, none⟩ = some (.int .i64 f)) : Calls Tryz.prog 142 #[.int .i64 9, .pointer (some ⟨p, 0, none⟩)] V fun e V' => Below V.heap.size V V' ∧ ∃ kb caps, e = .returned (.func (.func kb) #[] caps) ∧ (∀ args w, (callFunc kb args).run Tryz.prog w = .ok (.enter kb args) w)
    ∧ ∀ x y X, (Word x ∧ Word y) → Below V'.heap.size V' X → Calls Tryz.prog kb (#[.int .u64 x, .int .u64 y] ++ caps) X fun e X' => e = .returned (.int .u64 (gF 9 (f == 1) x y)) ∧ Below X.heap.size X X' := by
  have h := fbt_sub f
  go_enter Tryz.func142, Tryz.ntmps142
  go_wp2_with (go_at_call 143; refine (h _).mono ?_; rintro e V1 ⟨g, rfl, c1, c2⟩)
  go_ret
  exact ⟨g, _, _, rfl, enters_of Tryz.func180 (by kernel_rfl) rfl, fun x y X hxy bX => fb1_sub f x y hxy.1 hxy.2 _ _ X (sO bX c1) (sO bX c2)⟩
set_option maxRecDepth 100000 in
set_option maxHeartbeats 6400000 in
theorem fbt_mul (f : Int) (V : World) : Calls Tryz.prog 143 #[.int .i64 f, .int .i64 10] V fun e V' => Below V.heap.size V V' ∧ e = .returned (.func (.func 180) #[] #[.pointer (some ⟨V.heap.size + 1, 0, none⟩), .pointer (some ⟨V.heap.size, 0, none⟩)]) ∧ V'.cell? ⟨V.heap.size + 1, 0, none⟩ = some (.func (.func 57) #[] #[]) ∧ V'.cell? ⟨V.heap.size, 0, none⟩ = some (.int .i64 f) := by
  go_enter Tryz.func143, Tryz.ntmps143
  go_wp2_with fail
  go_ret
  exact ⟨sp_new (sp_new (Below.refl _ _) _) _, rfl, by simp [go_sem], by simp [go_sem]⟩
set_option maxRecDepth 100000 in
set_option maxHeartbeats 6400000 in
theorem fb1_mul (f x y : Int) (hx : Word x) (hy : Word y) (p q : Nat) (X : World) (c1 : X.cell? ⟨p, 0, none⟩ = some (.func (.func 57) #[] #[])) (c2 : X.cell? ⟨q, 0, none⟩ = some (.int .i64 f)) :
    Calls Tryz.prog 180 #[.int .u64 x, .int .u64 y, .pointer (some ⟨p, 0, none⟩), .pointer (some ⟨q, 0, none⟩)] X fun e X' => e = .returned (.int .u64 (gF 10 (f == 1) x y)) ∧ Below X.heap.size X X' := by
  have h := mul_fl f 0 x y hx hy
  have e : gF 10 (f == 1) x y = mulF (f == 1) 0 x y := by simp [gF]
  rw [e]
  clear e
  generalize mulF (f == 1) 0 x y = r at *
  have ef := enters_of Tryz.func57 (by kernel_rfl) rfl
  go_enter Tryz.func180, Tryz.ntmps180
  go_wp2_with (first
    | (go_at_call 57; refine (h _).mono ?_; rintro e X1 ⟨rfl, g⟩)
    | fail)
  go_ret
  exact ⟨rfl, g⟩
set_option maxRecDepth 100000 in
set_option maxHeartbeats 6400000 in
theorem f6_mul (f : Int) (p : Nat) (V : World) (c : V.cell? ⟨p, 0, none⟩ = some (.int .i64 f)) : Calls Tryz.prog 142 #[.int .i64 10, .pointer (some ⟨p, 0, none⟩)] V fun e V' => Below V.heap.size V V' ∧ ∃ kb caps, e = .returned (.func (.func kb) #[] caps) ∧ (∀ args w, (callFunc kb args).run Tryz.prog w = .ok (.enter kb args) w)
    ∧ ∀ x y X, (Word x ∧ Word y) → Below V'.heap.size V' X → Calls Tryz.prog kb (#[.int .u64 x, .int .u64 y] ++ caps) X fun e X' => e = .returned (.int .u64 (gF 10 (f == 1) x y)) ∧ Below X.heap.size X X' := by
  have h := fbt_mul f
  go_enter Tryz.func142, Tryz.ntmps142
  go_wp2_with (go_at_call 143; refine (h _).mono ?_; rintro e V1 ⟨g, rfl, c1, c2⟩)
  go_ret
  exact ⟨g, _, _, rfl, enters_of Tryz.func180 (by kernel_rfl) rfl, fun x y X hxy bX => fb1_mul f x y hxy.1 hxy.2 _ _ X (sO bX c1) (sO bX c2)⟩
set_option maxRecDepth 100000 in
set_option maxHeartbeats 6400000 in
theorem fbt_div (f : Int) (V : World) : Calls Tryz.prog 143 #[.int .i64 f, .int .i64 11] V fun e V' => Below V.heap.size V V' ∧ e = .returned (.func (.func 180) #[] #[.pointer (some ⟨V.heap.size + 1, 0, none⟩), .pointer (some ⟨V.heap.size, 0, none⟩)]) ∧ V'.cell? ⟨V.heap.size + 1, 0, none⟩ = some (.func (.func 179) #[] #[]) ∧ V'.cell? ⟨V.heap.size, 0, none⟩ = some (.int .i64 f) := by
  go_enter Tryz.func143, Tryz.ntmps143
  go_wp2_with fail
  go_ret
  exact ⟨sp_new (sp_new (Below.refl _ _) _) _, rfl, by simp [go_sem], by simp [go_sem]⟩
set_option maxRecDepth 100000 in
set_option maxHeartbeats 6400000 in
theorem fb1_div (f x y : Int) (hx : Word x) (hy : Word y) (p q : Nat) (X : World) (c1 : X.cell? ⟨p, 0, none⟩ = some (.func (.func 179) #[] #[])) (c2 : X.cell? ⟨q, 0, none⟩ = some (.int .i64 f)) :
    Calls Tryz.prog 180 #[.int .u64 x, .int .u64 y, .pointer (some ⟨p, 0, none⟩), .pointer (some ⟨q, 0, none⟩)] X fun e X' => e = .returned (.int .u64 (gF 11 (f == 1) x y)) ∧ Below X.heap.size X X' := by
  have h := div_fl f 0 x y hx hy
  have e : gF 11 (f == 1) x y = divF (f == 1) 0 x y := by simp [gF]
  rw [e]
  clear e
  generalize divF (f == 1) 0 x y = r at *
  have ef := enters_of Tryz.func179 (by kernel_rfl) rfl
  go_enter Tryz.func180, Tryz.ntmps180
  go_wp2_with (first
    | (go_at_call 179; refine (h _).mono ?_; rintro e X1 ⟨rfl, g⟩)
    | fail)
  go_ret
  exact ⟨rfl, g⟩
set_option maxRecDepth 100000 in
set_option maxHeartbeats 6400000 in
theorem f6_div (f : Int) (p : Nat) (V : World) (c : V.cell? ⟨p, 0, none⟩ = some (.int .i64 f)) : Calls Tryz.prog 142 #[.int .i64 11, .pointer (some ⟨p, 0, none⟩)] V fun e V' => Below V.heap.size V V' ∧ ∃ kb caps, e = .returned (.func (.func kb) #[] caps) ∧ (∀ args w, (callFunc kb args).run Tryz.prog w = .ok (.enter kb args) w)
    ∧ ∀ x y X, (Word x ∧ Word y) → Below V'.heap.size V' X → Calls Tryz.prog kb (#[.int .u64 x, .int .u64 y] ++ caps) X fun e X' => e = .returned (.int .u64 (gF 11 (f == 1) x y)) ∧ Below X.heap.size X X' := by
  have h := fbt_div f
  go_enter Tryz.func142, Tryz.ntmps142
  go_wp2_with (go_at_call 143; refine (h _).mono ?_; rintro e V1 ⟨g, rfl, c1, c2⟩)
  go_ret
  exact ⟨g, _, _, rfl, enters_of Tryz.func180 (by kernel_rfl) rfl, fun x y X hxy bX => fb1_div f x y hxy.1 hxy.2 _ _ X (sO bX c1) (sO bX c2)⟩
theorem by2_f {f : Int} {L : Ln} {B : Nat} {w0 : World} (hL : FlAt f L B w0) (op : Int) (hop : op = 8 ∨ op = 9 ∨ op = 10 ∨ op = 11) : By2f L (WyF (f == 1)) B w0 op (fun x y => Word x ∧ Word y) (gF op (f == 1)) := by
  obtain ⟨p, q, rfl, h1, h2, h3, h4, h5⟩ := hL
  intro V ok
  have c : V.cell? ⟨p, 0, none⟩ = some (.int .i64 f) := (ok.cell (p := ⟨p, 0, none⟩) h2).trans h4
  rcases hop with rfl | rfl | rfl | rfl
  · exact f6_add f p V c
  · exact f6_sub f p V c
  · exact f6_mul f p V c
  · exact f6_div f p V c
theorem et_f {f : Int} {L : Ln} {B : Nat} {w0 : World} (hL : FlAt f L B w0) : ∀ args w, (callFunc L.kt args).run Tryz.prog w = .ok (.enter L.kt args) w := by
  obtain ⟨p, q, rfl, _⟩ := hL
  exact enters_of Tryz.func142 (by kernel_rfl) rfl
theorem ez_f {f : Int} {L : Ln} {B : Nat} {w0 : World} (hL : FlAt f L B w0) : ∀ args w, (callFunc L.kz args).run Tryz.prog w = .ok (.enter L.kz args) w := by
  obtain ⟨p, q, rfl, _⟩ := hL
  exact enters_of Tryz.func146 (by kernel_rfl) rfl
set_option maxRecDepth 100000 in
set_option maxHeartbeats 6400000 in
theorem trapsOf_f1 (w : World) : Calls Tryz.prog 148 #[.int .i64 1] w fun e w' => e = .returned (.int .i64 1) ∧ w' = w := by
  go_enter Tryz.func148, Tryz.ntmps148
  go_wp2_with fail
  go_ret
  exact ⟨rfl, rfl⟩
set_option maxRecDepth 100000 in
set_option maxHeartbeats 6400000 in
theorem trapsOf_f2 (w : World) : Calls Tryz.prog 148 #[.int .i64 2] w fun e w' => e = .returned (.int .i64 2) ∧ w' = w := by
  go_enter Tryz.func148, Tryz.ntmps148
  go_wp2_with fail
  go_ret
  exact ⟨rfl, rfl⟩
def zF (h : Bool) (a b : Int) : Int := (if h then 1 else 0) + (if a = 0 ∧ b = 0 then 0 else 2)
set_option maxRecDepth 100000 in
set_option maxHeartbeats 6400000 in
theorem byZero_core (L : Ln) (q : Nat) (e1 : Bool) (a b : Int) (h : Bool) (V : World) (hl : LineAt V q L)
    (hh : ∀ X, Below V.heap.size V X → Calls Tryz.prog 147 #[.agg (lvf L), .agg #[.bool e1, .int .u64 a, .int .u64 b], .int .u64 0] X fun e X' => e = .returned (.bool h) ∧ Below X.heap.size X X') :
    Calls Tryz.prog 146 #[.agg #[.bool e1, .int .u64 a, .int .u64 b], .pointer (some ⟨q, 0, none⟩)] V fun e V' => e = .returned (.int .i64 (zF h a b)) ∧ Below V.heap.size V V' := by
  have t1 := trapsOf_f1
  have t2 := trapsOf_f2
  unfold LineAt at hl
  have l0 := hl 0 _ rfl
  have l1 := hl 1 _ rfl
  have l2 := hl 2 _ rfl
  have l3 := hl 3 _ rfl
  have l4 := hl 4 _ rfl
  have l5 := hl 5 _ rfl
  have l6 := hl 6 _ rfl
  have l7 := hl 7 _ rfl
  have l8 := hl 8 _ rfl
  have l9 := hl 9 _ rfl
  have l10 := hl 10 _ rfl
  clear hl
  have hh1 := hh _ (sp_new (Below.refl _ V) (.cells #[.bool e1, .int .u64 a, .int .u64 b] 126))
  clear hh
  have lq : q < V.heap.size := World.block_lt_of_cell? V ⟨q, 0, none⟩ l0
  unfold lvf at hh1
  cases h
  · by_cases ca : a = 0
    · by_cases cb : b = 0
      · subst ca; subst cb
        rw [show zF false 0 0 = 0 by decide]
        go_enter Tryz.func146, Tryz.ntmps146
        go_wp2_with (first
          | (go_at_call 147; refine hh1.mono ?_; rintro e w1 ⟨rfl, g⟩; have hc := fun j => g.cell (p := ⟨V.heap.size, j, none⟩) (by simp))
          | (go_at_call 148; refine (t1 _).mono ?_; rintro e w2 ⟨rfl, rfl⟩)
          | (go_at_call 148; refine (t2 _).mono ?_; rintro e w3 ⟨rfl, rfl⟩)
          | fail)
        go_ret
        exact ⟨by first | rfl | (show Ending.returned (.int .i64 (bits BinOp.or IntKind.i64 _ 2)) = _; rfl), sp_call (sp_new (Below.refl _ _) _) g⟩
      · subst ca
        rw [show zF false 0 b = 2 by simp [zF, cb]]
        have cb1 : (b != 0) = true := by simp [cb]
        clear cb
        go_enter Tryz.func146, Tryz.ntmps146
        go_wp2_with (first
          | (go_at_call 147; refine hh1.mono ?_; rintro e w1 ⟨rfl, g⟩; have hc := fun j => g.cell (p := ⟨V.heap.size, j, none⟩) (by simp))
          | (go_at_call 148; refine (t1 _).mono ?_; rintro e w2 ⟨rfl, rfl⟩)
          | (go_at_call 148; refine (t2 _).mono ?_; rintro e w3 ⟨rfl, rfl⟩)
          | fail)
        go_ret
        exact ⟨by first | rfl | (show Ending.returned (.int .i64 (bits BinOp.or IntKind.i64 _ 2)) = _; rfl), sp_call (sp_new (Below.refl _ _) _) g⟩
    · rw [show zF false a b = 2 by simp [zF, ca]]
      have ca1 : (a != 0) = true := by simp [ca]
      clear ca
      go_enter Tryz.func146, Tryz.ntmps146
      go_wp2_with (first
          | (go_at_call 147; refine hh1.mono ?_; rintro e w1 ⟨rfl, g⟩; have hc := fun j => g.cell (p := ⟨V.heap.size, j, none⟩) (by simp))
          | (go_at_call 148; refine (t1 _).mono ?_; rintro e w2 ⟨rfl, rfl⟩)
          | (go_at_call 148; refine (t2 _).mono ?_; rintro e w3 ⟨rfl, rfl⟩)
          | fail)
      go_ret
      exact ⟨by first | rfl | (show Ending.returned (.int .i64 (bits BinOp.or IntKind.i64 _ 2)) = _; rfl), sp_call (sp_new (Below.refl _ _) _) g⟩
  · by_cases ca : a = 0
    · by_cases cb : b = 0
      · subst ca; subst cb
        rw [show zF true 0 0 = 1 by decide]
        go_enter Tryz.func146, Tryz.ntmps146
        go_wp2_with (first
          | (go_at_call 147; refine hh1.mono ?_; rintro e w1 ⟨rfl, g⟩; have hc := fun j => g.cell (p := ⟨V.heap.size, j, none⟩) (by simp))
          | (go_at_call 148; refine (t1 _).mono ?_; rintro e w2 ⟨rfl, rfl⟩)
          | (go_at_call 148; refine (t2 _).mono ?_; rintro e w3 ⟨rfl, rfl⟩)
          | fail)
        go_ret
        exact ⟨by first | rfl | (show Ending.returned (.int .i64 (bits BinOp.or IntKind.i64 _ 2)) = _; rfl), sp_call (sp_new (Below.refl _ _) _) g⟩
      · subst ca
        rw [show zF true 0 b = 3 by simp [zF, cb]]
        have cb1 : (b != 0) = true := by simp [cb]
        clear cb
        go_enter Tryz.func146, Tryz.ntmps146
        go_wp2_with (first
          | (go_at_call 147; refine hh1.mono ?_; rintro e w1 ⟨rfl, g⟩; have hc := fun j => g.cell (p := ⟨V.heap.size, j, none⟩) (by simp))
          | (go_at_call 148; refine (t1 _).mono ?_; rintro e w2 ⟨rfl, rfl⟩)
          | (go_at_call 148; refine (t2 _).mono ?_; rintro e w3 ⟨rfl, rfl⟩)
          | fail)
        go_ret
        exact ⟨by first | rfl | (show Ending.returned (.int .i64 (bits BinOp.or IntKind.i64 _ 2)) = _; rfl), sp_call (sp_new (Below.refl _ _) _) g⟩
    · rw [show zF true a b = 3 by simp [zF, ca]]
      have ca1 : (a != 0) = true := by simp [ca]
      clear ca
      go_enter Tryz.func146, Tryz.ntmps146
      go_wp2_with (first
          | (go_at_call 147; refine hh1.mono ?_; rintro e w1 ⟨rfl, g⟩; have hc := fun j => g.cell (p := ⟨V.heap.size, j, none⟩) (by simp))
          | (go_at_call 148; refine (t1 _).mono ?_; rintro e w2 ⟨rfl, rfl⟩)
          | (go_at_call 148; refine (t2 _).mono ?_; rintro e w3 ⟨rfl, rfl⟩)
          | fail)
      go_ret
      exact ⟨by first | rfl | (show Ending.returned (.int .i64 (bits BinOp.or IntKind.i64 _ 2)) = _; rfl), sp_call (sp_new (Below.refl _ _) _) g⟩
theorem byZero_f {f : Int} {L : Ln} {B : Nat} {w0 : World} (hL : FlAt f L B w0) (e1 : Bool) (a b : Int) (ha : Word a) (hb : Word b) (V : World) (ok : Below B w0 V) :
    Calls Tryz.prog L.kz (#[.agg #[.bool e1, .int .u64 a, .int .u64 b]] ++ L.cz) V fun e V' => e = .returned (.int .i64 (zF (hasP (WyF (f == 1)) (e1, a, b) 0) a b)) ∧ Below V.heap.size V V' := by
  have H := fl_acts hL
  obtain ⟨p, q, rfl, h1, h2, h3, h4, h5⟩ := hL
  have w0' : Word 0 := ⟨by decide, by decide⟩
  have w1 : Word (plainF (f == 1) 0) := n_plainw _ 0 w0'
  refine byZero_core _ q e1 a b _ V (fun j v hj => ?_) (fun X bX => has_f H e1 a b 0 ha hb w0' w1 X (ok_call h1 ok bX))
  have := h5 j v hj
  exact (ok.cell (p := ⟨q, j, none⟩) h3).trans this
set_option maxRecDepth 100000 in
set_option maxHeartbeats 6400000 in
theorem ftwo_of (f op : Int) (e1 e2 : Bool) (a b c d : Int) (me : Bool) (mlo mhi TR : Int) (h : ∀ L B w0, FlAt f L B w0 → ∀ V, Below B w0 V → Calls Tryz.prog 103 #[.agg (lvf L), .int .i64 op, .agg #[.bool e1, .int .u64 a, .int .u64 b], .agg #[.bool e2, .int .u64 c, .int .u64 d]] V fun e w' => e = .returned (.tuple #[.agg #[.bool me, .int .u64 mlo, .int .u64 mhi], .int .i64 TR]) ∧ Below V.heap.size V w') (w : World) :
    Calls Tryz.prog 52 #[.int .i64 f, .int .i64 op, .agg #[.bool e1, .int .u64 a, .int .u64 b], .agg #[.bool e2, .int .u64 c, .int .u64 d]] w fun e w' => e = .returned (.tuple #[.agg #[.bool me, .int .u64 mlo, .int .u64 mhi], .int .i64 TR]) ∧ Below w.heap.size w w' := by
  have h1 := floats_at f
  have h5 := floatRange_any me mlo mhi
  have ho1 := ofFloats_any
  have ho2 := ofFloats_any
  go_enter Tryz.func52, Tryz.ntmps52
  go_upto_region 1 with fail
  obtain ⟨W, hW⟩ : ∃ W, (((w.alloc (.cells #[.bool e1, .int .u64 a, .int .u64 b] 24)).alloc (.cells #[.bool e2, .int .u64 c, .int .u64 d] 24)).alloc (.cells #[.bool false, .int .u64 0, .int .u64 0] 24)) = W := ⟨_, rfl⟩
  have a0 : W.cell? ⟨w.heap.size, 0, none⟩ = some (.bool e1) := by rw [← hW]; simp [go_sem]
  have a1 : W.cell? ⟨w.heap.size, 1, none⟩ = some (.int .u64 a) := by rw [← hW]; simp [go_sem]
  have a2 : W.cell? ⟨w.heap.size, 2, none⟩ = some (.int .u64 b) := by rw [← hW]; simp [go_sem]
  have b0 : W.cell? ⟨w.heap.size + 1, 0, none⟩ = some (.bool e2) := by rw [← hW]; simp [go_sem]
  have b1 : W.cell? ⟨w.heap.size + 1, 1, none⟩ = some (.int .u64 c) := by rw [← hW]; simp [go_sem]
  have b2 : W.cell? ⟨w.heap.size + 1, 2, none⟩ = some (.int .u64 d) := by rw [← hW]; simp [go_sem]
  have r0 : W.cell? ⟨w.heap.size + 1 + 1, 0, none⟩ = some (.bool false) := by rw [← hW]; simp [go_sem]
  have r1 : W.cell? ⟨w.heap.size + 1 + 1, 1, none⟩ = some (.int .u64 0) := by rw [← hW]; simp [go_sem]
  have r2 : W.cell? ⟨w.heap.size + 1 + 1, 2, none⟩ = some (.int .u64 0) := by rw [← hW]; simp [go_sem]
  have bW : Below w.heap.size w W := by rw [← hW]; exact (sp_new (sp_new (sp_new (Below.refl _ _) _) _) _)
  have zW : W.heap.size = w.heap.size + 3 := by rw [← hW]; simp
  have fz : ∀ j, W.frozen? ⟨w.heap.size + 1 + 1, j, none⟩ = false := by intro j; rw [← hW]; simp [go_sem]
  rw [hW]
  clear hW
  have hall : ∀ X, Below W.heap.size W X → (X.cell? ⟨w.heap.size, 0, none⟩ = some (.bool e1) ∧ X.cell? ⟨w.heap.size, 1, none⟩ = some (.int .u64 a) ∧ X.cell? ⟨w.heap.size, 2, none⟩ = some (.int .u64 b) ∧ X.cell? ⟨w.heap.size + 1, 0, none⟩ = some (.bool e2) ∧ X.cell? ⟨w.heap.size + 1, 1, none⟩ = some (.int .u64 c) ∧ X.cell? ⟨w.heap.size + 1, 2, none⟩ = some (.int .u64 d)) := fun X cc => ⟨sO cc a0, sO cc a1, sO cc a2, sO cc b0, sO cc b1, sO cc b2⟩
  have cc : Below W.heap.size W W := Below.refl _ _
  replace zW := Nat.le_of_eq zW.symm
  go_cut [10, 11] from 12 to 22 (fun s u0 X => ∃ b : Nat, s = .pointer (some ⟨b, 0, none⟩) ∧ u0 = .int .i64 TR ∧ W.heap.size ≤ b ∧ X.cell? ⟨b, 0, none⟩ = some (.bool me) ∧ X.cell? ⟨b, 1, none⟩ = some (.int .u64 mlo) ∧ X.cell? ⟨b, 2, none⟩ = some (.int .u64 mhi) ∧ Below W.heap.size W X)
  case first =>
   go_region_held3 (fun w' => w'.cell? ⟨w.heap.size, 0, none⟩ = some (.bool e1) ∧ w'.cell? ⟨w.heap.size, 1, none⟩ = some (.int .u64 a) ∧ w'.cell? ⟨w.heap.size, 2, none⟩ = some (.int .u64 b) ∧ w'.cell? ⟨w.heap.size + 1, 0, none⟩ = some (.bool e2) ∧ w'.cell? ⟨w.heap.size + 1, 1, none⟩ = some (.int .u64 c) ∧ w'.cell? ⟨w.heap.size + 1, 2, none⟩ = some (.int .u64 d)) (first | exact hall _ (by first | exact cc | exact cc.drew | exact sp_new cc _ | exact (sp_new cc _).drew | exact sp_new cc.drew _ | exact sp_new (sp_new cc _) _ | exact sp_set3 cc (by omega) _ _ _ | exact (sp_set3 cc (by omega) _ _ _).drew) | trivial)
     (first
       | (go_at_call 100; refine (h1 _).mono ?_; rintro e v1 ⟨L, rfl, hL, g⟩; have oL : Below v1.heap.size v1 v1 := Below.refl _ _; replace cc := sp_call (show Below W.heap.size W _ by first | exact cc | exact cc.drew | exact sp_new cc _ | exact (sp_new cc _).drew | exact sp_new cc.drew _ | exact sp_new (sp_new cc _) _) g; have zcv1 := cc.size; (try first | (have qb := carry1f (o := (Obj.cells #[.bool false, .int .u64 0, .int .u64 0] 126 (0, 0))) g (by assumption)) | (have qb := carry2f (o := (Obj.cells #[.bool false, .int .u64 0, .int .u64 0] 126 (0, 0))) g (by assumption)) | (have qb := carry3f (o := (Obj.cells #[.bool false, .int .u64 0, .int .u64 0] 126 (0, 0))) g (by assumption)) | skip); (try first | (have qb : v1.heap[W.heap.size]? = some (Obj.cells #[.bool false, .int .u64 0, .int .u64 0] 126 (0, 0)) := carry1f g (World.alloc_heap_new W (Obj.cells #[.bool false, .int .u64 0, .int .u64 0] 126 (0, 0)))) | (have qb : v1.heap[W.heap.size]? = some (Obj.cells #[.bool false, .int .u64 0, .int .u64 0] 126 (0, 0)) := carry1f g (World.alloc_heap_new W.drew (Obj.cells #[.bool false, .int .u64 0, .int .u64 0] 126 (0, 0)))) | (have qb : v1.heap[W.heap.size]? = some (Obj.cells #[.bool false, .int .u64 0, .int .u64 0] 126 (0, 0)) := carry1f g (show (World.drew (World.alloc W (Obj.cells #[.bool false, .int .u64 0, .int .u64 0] 126 (0, 0)))).heap[W.heap.size]? = some (Obj.cells #[.bool false, .int .u64 0, .int .u64 0] 126 (0, 0)) from World.alloc_heap_new W (Obj.cells #[.bool false, .int .u64 0, .int .u64 0] 126 (0, 0)))) | skip); skip)
       | (go_at_call 104; refine (ho1 _ _ _ _).mono ?_; rintro e v2 ⟨rfl, g⟩; replace cc := sp_call (show Below W.heap.size W _ by first | exact cc | exact cc.drew | exact sp_new cc _ | exact (sp_new cc _).drew | exact sp_new cc.drew _ | exact sp_new (sp_new cc _) _) g; have zcv2 := cc.size; (try first | (have qb := carry1f (o := (Obj.cells #[.bool false, .int .u64 0, .int .u64 0] 126 (0, 0))) g (by assumption)) | (have qb := carry2f (o := (Obj.cells #[.bool false, .int .u64 0, .int .u64 0] 126 (0, 0))) g (by assumption)) | (have qb := carry3f (o := (Obj.cells #[.bool false, .int .u64 0, .int .u64 0] 126 (0, 0))) g (by assumption)) | skip); (try first | (have qb : v2.heap[v1.heap.size]? = some (Obj.cells #[.bool false, .int .u64 0, .int .u64 0] 126 (0, 0)) := carry1f g (World.alloc_heap_new v1 (Obj.cells #[.bool false, .int .u64 0, .int .u64 0] 126 (0, 0)))) | (have qb : v2.heap[v1.heap.size]? = some (Obj.cells #[.bool false, .int .u64 0, .int .u64 0] 126 (0, 0)) := carry1f g (World.alloc_heap_new v1.drew (Obj.cells #[.bool false, .int .u64 0, .int .u64 0] 126 (0, 0)))) | (have qb : v2.heap[v1.heap.size]? = some (Obj.cells #[.bool false, .int .u64 0, .int .u64 0] 126 (0, 0)) := carry1f g (show (World.drew (World.alloc v1 (Obj.cells #[.bool false, .int .u64 0, .int .u64 0] 126 (0, 0)))).heap[v1.heap.size]? = some (Obj.cells #[.bool false, .int .u64 0, .int .u64 0] 126 (0, 0)) from World.alloc_heap_new v1 (Obj.cells #[.bool false, .int .u64 0, .int .u64 0] 126 (0, 0)))) | skip); replace oL := sp_call (show Below v1.heap.size v1 _ by first | exact oL | exact oL.drew | exact sp_new oL _ | exact (sp_new oL _).drew | exact sp_new oL.drew _) g; clear ho1)
       | (go_at_call 104; refine (ho2 _ _ _ _).mono ?_; rintro e v3 ⟨rfl, g⟩; replace cc := sp_call (show Below W.heap.size W _ by first | exact cc | exact cc.drew | exact sp_new cc _ | exact (sp_new cc _).drew | exact sp_new cc.drew _ | exact sp_new (sp_new cc _) _) g; have zcv3 := cc.size; (try first | (have qb := carry1f (o := (Obj.cells #[.bool false, .int .u64 0, .int .u64 0] 126 (0, 0))) g (by assumption)) | (have qb := carry2f (o := (Obj.cells #[.bool false, .int .u64 0, .int .u64 0] 126 (0, 0))) g (by assumption)) | (have qb := carry3f (o := (Obj.cells #[.bool false, .int .u64 0, .int .u64 0] 126 (0, 0))) g (by assumption)) | skip); (try first | (have qb : v3.heap[v2.heap.size]? = some (Obj.cells #[.bool false, .int .u64 0, .int .u64 0] 126 (0, 0)) := carry1f g (World.alloc_heap_new v2 (Obj.cells #[.bool false, .int .u64 0, .int .u64 0] 126 (0, 0)))) | (have qb : v3.heap[v2.heap.size]? = some (Obj.cells #[.bool false, .int .u64 0, .int .u64 0] 126 (0, 0)) := carry1f g (World.alloc_heap_new v2.drew (Obj.cells #[.bool false, .int .u64 0, .int .u64 0] 126 (0, 0)))) | (have qb : v3.heap[v2.heap.size]? = some (Obj.cells #[.bool false, .int .u64 0, .int .u64 0] 126 (0, 0)) := carry1f g (show (World.drew (World.alloc v2 (Obj.cells #[.bool false, .int .u64 0, .int .u64 0] 126 (0, 0)))).heap[v2.heap.size]? = some (Obj.cells #[.bool false, .int .u64 0, .int .u64 0] 126 (0, 0)) from World.alloc_heap_new v2 (Obj.cells #[.bool false, .int .u64 0, .int .u64 0] 126 (0, 0)))) | skip); replace oL := sp_call (show Below v1.heap.size v1 _ by first | exact oL | exact oL.drew | exact sp_new oL _ | exact (sp_new oL _).drew | exact sp_new oL.drew _) g)
       | (go_at_call 103; refine (h L _ _ hL _ (by first | exact oL | exact oL.drew | exact sp_new oL _ | exact (sp_new oL _).drew | exact sp_new oL.drew _)).mono ?_; rintro e v4 ⟨rfl, g⟩; replace cc := sp_call (show Below W.heap.size W _ by first | exact cc | exact cc.drew | exact sp_new cc _ | exact (sp_new cc _).drew | exact sp_new cc.drew _ | exact sp_new (sp_new cc _) _) g; have zcv4 := cc.size; (try first | (have qb := carry1f (o := (Obj.cells #[.bool false, .int .u64 0, .int .u64 0] 126 (0, 0))) g (by assumption)) | (have qb := carry2f (o := (Obj.cells #[.bool false, .int .u64 0, .int .u64 0] 126 (0, 0))) g (by assumption)) | (have qb := carry3f (o := (Obj.cells #[.bool false, .int .u64 0, .int .u64 0] 126 (0, 0))) g (by assumption)) | skip); (try first | (have qb : v4.heap[v3.heap.size]? = some (Obj.cells #[.bool false, .int .u64 0, .int .u64 0] 126 (0, 0)) := carry1f g (World.alloc_heap_new v3 (Obj.cells #[.bool false, .int .u64 0, .int .u64 0] 126 (0, 0)))) | (have qb : v4.heap[v3.heap.size]? = some (Obj.cells #[.bool false, .int .u64 0, .int .u64 0] 126 (0, 0)) := carry1f g (World.alloc_heap_new v3.drew (Obj.cells #[.bool false, .int .u64 0, .int .u64 0] 126 (0, 0)))) | (have qb : v4.heap[v3.heap.size]? = some (Obj.cells #[.bool false, .int .u64 0, .int .u64 0] 126 (0, 0)) := carry1f g (show (World.drew (World.alloc v3 (Obj.cells #[.bool false, .int .u64 0, .int .u64 0] 126 (0, 0)))).heap[v3.heap.size]? = some (Obj.cells #[.bool false, .int .u64 0, .int .u64 0] 126 (0, 0)) from World.alloc_heap_new v3 (Obj.cells #[.bool false, .int .u64 0, .int .u64 0] 126 (0, 0)))) | skip); (try first | (have hq := zcellsf (v := v4) (by assumption); obtain ⟨q0, q1, q2, qf⟩ := hq) | skip); skip)
       | fail)
   all_goals go_wp2_with fail
   all_goals go_meet
   all_goals exact ⟨_, rfl, rfl, by omega, by first | (simp [go_sem]; done) | (simp [go_sem, q0, q1, q2]; done), by first | (simp [go_sem]; done) | (simp [go_sem, q0, q1, q2]; done), by first | (simp [go_sem]; done) | (simp [go_sem, q0, q1, q2]; done), by first | exact sp_new cc _ | exact sp_set3 cc (by omega) _ _ _⟩
  case rest =>
   obtain ⟨bq, rfl, rfl, hbq, t0, t1, t2, cX⟩ := hcut
   replace r0 := sO cX r0
   replace r1 := sO cX r1
   replace r2 := sO cX r2
   replace fz := fun j => (cX.frozen (p := ⟨w.heap.size + 1 + 1, j, none⟩) (by simp; omega)).trans (fz j)
   have zX := cX.size
   have bX := sp_call bW cX
   clear hall cc
   go_wp2_with (first
     | (go_at_call 99; refine (h5 _).mono ?_; rintro e v5 ⟨rfl, g⟩; replace fz := fun j => (g.frozen (p := ⟨w.heap.size + 1 + 1, j, none⟩) (by simp; omega)).trans (fz j); replace bX := sp_call bX g; replace r0 := sO g r0; replace r1 := sO g r1; replace r2 := sO g r2; clear g)
     | fail)
   exact bodyPost_ret (v := .tuple #[.agg #[.bool me, .int .u64 mlo, .int .u64 mhi], .int .i64 TR]) (by simp [results, Tryz.results52, go_sem, r0, r1, r2]) rfl ⟨rfl, sp_set3 bX (by omega) _ _ _⟩
end Go.Proofs.YteafnkimcidkhaaGreat



