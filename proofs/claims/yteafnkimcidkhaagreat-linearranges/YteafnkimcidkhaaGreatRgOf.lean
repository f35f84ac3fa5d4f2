/- span.eachOfBoth and its closure: what becomes of both ends of one stretch with both ends of each of others, in order. -/
import Derived.Test.YteafnkimcidkhaaGreatRgBf
import Derived.Deep.DrawnRows
namespace Go.Proofs.YteafnkimcidkhaaGreat
open Go.RowKit Go.Shelf
set_option linter.unusedVariables false
set_option linter.unusedSimpArgs false
attribute [local go_sem] Oper.semAt_some
set_option maxRecDepth 100000 in
set_option maxHeartbeats 4000000 in
theorem each21_f (l Ba Bb By b cap kb : Nat) (caps : Array Value) (g : Int → Int → Int) (em : Bool) (lo hi : Int) (ls : List (Bool × Int × Int)) (hlen : ls.length ≤ 1000) (S : Nat → Prop) (W : World) (hBa : ¬ S Ba) (hBb : ¬ S Bb) (hBy : ¬ S By) (hb : ¬ S b) (hS : ∀ k, S k → k < W.heap.size) (J : List Int → World → Prop)
    (hY : ∀ pre (x : Int) W1, pre ++ [x] <+: (pairsL (em, lo, hi) ls).map (fun p => g p.1 p.2) → J pre W1 → ∀ m, YieldAt Fence.wide m Tryz.prog l #[.int .u64 x] W1 fun e W' => e = .returned (.bool true) ∧ J (pre ++ [x]) W' ∧ But S W1 W')
    (hby : ∀ x y V, (x, y) ∈ pairsL (em, lo, hi) ls → But S W V → Calls Tryz.prog kb (#[.int .u64 x, .int .u64 y] ++ caps) V fun e V' => e = .returned (.int .u64 (g x y)) ∧ Below V.heap.size V V')
    (eby : ∀ args w, (callFunc kb args).run Tryz.prog w = .ok (.enter kb args) w)
    (st : Stable W.heap.size J) (ha : Box3f W Ba (em, lo, hi)) (hc : W.cell? ⟨Bb, 0, none⟩ = some (.slice (some ⟨b, 0, none⟩) ls.length cap)) (hf : W.cell? ⟨By, 0, none⟩ = some (.func (.func kb) #[] caps)) (hr : SRowf W b ls) (h0 : J [] W) :
    Calls Tryz.prog 194 #[.func (.yield l) #[] #[], .pointer (some ⟨Ba, 0, none⟩), .pointer (some ⟨Bb, 0, none⟩), .pointer (some ⟨By, 0, none⟩)] W fun e W' => (∃ v, e = .returned v) ∧ J ((pairsL (em, lo, hi) ls).map (fun p => g p.1 p.2)) W' := by
  obtain ⟨a1, a2, a3⟩ := ha
  have lBa : Ba < W.heap.size := World.block_lt_of_cell? W _ a1
  have lBb : Bb < W.heap.size := World.block_lt_of_cell? W _ hc
  have lBy : By < W.heap.size := World.block_lt_of_cell? W _ hf
  have hboth := both_f
  refine (callsIn_wide (n := 3)).1 ?_
  refine callsIn_of_wp_marks Tryz.func194 rfl trivial ?_ rfl
  simp only [Tryz.ntmps194, List.size_toArray, List.length_cons, List.length_nil, Nat.reduceAdd, Nat.reduceSub, Array.replicate_succ, Array.replicate_zero, List.push_toArray, List.append_toArray, List.nil_append, List.cons_append]
  gi_wp2_with (refine ⟨trivial, ?_⟩; gi_at_call 195; refine (callsIn_wide.2 (hboth _ _ _ _ ⟨_, _, _, rfl⟩ _)).mono ?_; rintro e w' ⟨rfl, rfl⟩)
  obtain ⟨W0, hW0⟩ : ∃ W0, ((W.alloc (.cells #[.func (.yield l) #[] #[]] 129)).alloc (.cells #[.bool em, .int .u64 lo, .int .u64 hi] 126)).alloc (.cells #[.slice (some ⟨b, 0, none⟩) ls.length cap] 211) = W0 := ⟨_, rfl⟩
  have z0 : W0.heap.size = W.heap.size + 3 := by rw [← hW0]; simp
  have q0 : W0.cell? ⟨W.heap.size, 0, none⟩ = some (.func (.yield l) #[] #[]) := by rw [← hW0]; simp [go_sem]
  have q1 : Box3f W0 (W.heap.size + 1) (em, lo, hi) := by unfold Box3f; rw [← hW0]; simp [go_sem]
  have q2 : W0.cell? ⟨W.heap.size + 1 + 1, 0, none⟩ = some (.slice (some ⟨b, 0, none⟩) ls.length cap) := by rw [← hW0]; simp [go_sem]
  have Bw : Below W.heap.size W W0 := by rw [← hW0]; exact (((Below.refl _ W).alloc (Nat.le_refl _) _).alloc (by simp) _).alloc (by simp; omega) _
  have B0 : But S W W0 := But.of Bw
  have qf := B0.cell hBy hf
  have qr := hr.but B0 hb
  have nS : ∀ k, W.heap.size ≤ k → ¬ S k := fun k hk h => absurd (hS k h) (by omega)
  rw [hW0]
  clear hW0 a1 a2 a3 hc hr hf
  refine feed_out (n := 3) rfl (enters_of Tryz.func207 (by kernel_rfl) rfl) (both_feeds_f (W.heap.size + 1) (W.heap.size + 1 + 1) b cap em lo hi ls hlen S W0 (nS _ (by omega)) (nS _ (by omega)) hb (fun k hk => by have := hS k hk; omega) q1 q2 qr) (fun _ => rfl) (fun k hk => by have := hS k hk; omega)
    (fun (pre : List (Int × Int)) W' => J (pre.map fun p : Int × Int => g p.1 p.2) W' ∧ But S W0 W') (Stable.and (fun s A B h hb => st _ A B h (hb.mono (by omega))) (stable_but (Nat.le_refl _))) ⟨by simpa using st _ _ _ h0 Bw, But.refl _ _⟩
    (fun l0 x a' W' => a' = { tmps := #[.func (.yield l) #[] #[], .pointer (some ⟨Ba, 0, none⟩), .pointer (some ⟨Bb, 0, none⟩), .pointer (some ⟨By, 0, none⟩), .pointer (some ⟨W.heap.size, 0, none⟩), .int .u64 x.1, .int .u64 x.2, .agg #[.bool em, .int .u64 lo, .int .u64 hi], .slice (some ⟨b, 0, none⟩) ls.length cap, .func (.func 207) #[] #[.pointer (some ⟨W.heap.size + 1, 0, none⟩), .pointer (some ⟨W.heap.size + 1 + 1, 0, none⟩)], .int .u64 x.1, .int .u64 x.2, undef, undef, undef, undef, undef, undef, undef], defers := [] })
    (fun l0 x a' A B h ho => h) ?assign ?body ?done
  case assign =>
    rintro m l0 pre ⟨x, y⟩ W' K hl0 ll0 hp hI hK
    gi_wp2
    exact hK _ _ (But.refl _ _) hI rfl
  case body =>
    rintro m l0 pre ⟨x, y⟩ a' W' hl0 hrec hp ⟨hJ, hB⟩ rfl
    have z := hB.size
    have c0 := hB.cell (nS _ (Nat.le_refl _)) q0
    have c1 := hB.cell hBy qf
    have mem : (x, y) ∈ pairsL (em, lo, hi) ls := List.IsPrefix.subset hp (by simp)
    have hb1 := fun V (hV : Below W'.heap.size W' V) => hby x y V mem ((B0.trans hB).call hV)
    have hpm : (pre.map fun p : Int × Int => g p.1 p.2) ++ [g x y] <+: (pairsL (em, lo, hi) ls).map (fun p => g p.1 p.2) := by
      obtain ⟨t, ht⟩ := hp
      exact ⟨t.map fun p => g p.1 p.2, by rw [← ht]; simp⟩
    have hgo := fun V (hV : Below W'.heap.size W' V) => hY _ (g x y) V hpm (st _ W' V hJ (hV.mono (by omega))) (m - 1)
    have hend : ∀ V, J ((pre.map fun p : Int × Int => g p.1 p.2) ++ [g x y]) V → J ((pre ++ [(x, y)]).map fun p : Int × Int => g p.1 p.2) V := fun V h => by simpa using h
    clear hY hpm
    clear hend
    have hmix : Tryz.prog.follows .mixedOrders = true := by kernel_rfl
    gi_wp2
    gi_region_with_o (first
      | (refine ⟨trivial, (fun h => by cases h), ?_⟩; refine (CallsIn.inRound l0 (callsIn_wide.2 (hb1 _ (by first | exact Below.refl _ _ | exact (Below.refl _ _).drew | exact (Below.refl _ _).drew.drew)))).mono ?_; rintro e V ⟨rfl, bV⟩; have bV' : Below W'.heap.size W' V := ⟨bV.os, bV.tape, bV.output, bV.size, bV.block⟩; have c0' := (But.of (S := S) bV').cell (nS _ (Nat.le_refl _)) c0; obtain ⟨fn1, t1, as1, bo1, hy1, hR1⟩ := hgo V bV')
      | (refine ⟨(fun h => by cases h), ?_⟩; have hR2 : RoundIn (Fence.wide.inRound l0) (m - 1) Tryz.prog l fn1 t1 as1 bo1 V _ := hR1; refine hR2.mono ?_; rintro e V2 ⟨rfl, hJ3, hB3⟩)
      | fail)
    all_goals gi_wp2
    all_goals exact ⟨(But.of bV').trans hB3, by simpa using hJ3, hB.trans ((But.of bV').trans hB3)⟩
  case done =>
    rintro D W' hD ⟨hJ, hB⟩ hK
    gi_wp2
    refine ⟨by simp, .inl ⟨_, _, rfl, run_takeDeferred hK, ?_⟩⟩
    exact ⟨_, results_none rfl _ _ _, ⟨_, rfl⟩, st _ _ _ hJ ((OnlyAt.put _ _ _).below (by omega))⟩
set_option maxHeartbeats 1000000 in
theorem each2_f (fv : Value) (hfv : ∃ kb caps, fv = .func (.func kb) #[] caps) (e : Bool) (lo hi : Int) (v : Value) (hv : ∃ b n cap, v = .slice (some ⟨b, 0, none⟩) n cap) (w : World) : Calls Tryz.prog 156 #[fv, .agg #[.bool e, .int .u64 lo, .int .u64 hi], v] w fun r w' => r = .returned (.func (.func 194) #[] #[.pointer (some ⟨w.heap.size + 1, 0, none⟩), .pointer (some ⟨w.heap.size + 1 + 1, 0, none⟩), .pointer (some ⟨w.heap.size, 0, none⟩)]) ∧ w' = ((w.alloc (.cells #[fv] 144)).alloc (.cells #[.bool e, .int .u64 lo, .int .u64 hi] 126)).alloc (.cells #[v] 211) := by
  obtain ⟨b, n, cap, rfl⟩ := hv
  obtain ⟨kb, caps, rfl⟩ := hfv
  go_enter Tryz.func156, Tryz.ntmps156
  go_wp2_with fail
  go_ret
  exact ⟨rfl, rfl⟩
theorem each2_feeds_f (Ba Bb By b cap kb : Nat) (caps : Array Value) (g : Int → Int → Int) (em : Bool) (lo hi : Int) (ls : List (Bool × Int × Int)) (hlen : ls.length ≤ 1000) (S : Nat → Prop) (w : World) (hBa : ¬ S Ba) (hBb : ¬ S Bb) (hBy : ¬ S By) (hb : ¬ S b) (hS : ∀ k, S k → k < w.heap.size)
    (hby : ∀ x y V, (x, y) ∈ pairsL (em, lo, hi) ls → But S w V → Calls Tryz.prog kb (#[.int .u64 x, .int .u64 y] ++ caps) V fun e V' => e = .returned (.int .u64 (g x y)) ∧ Below V.heap.size V V')
    (eby : ∀ args w, (callFunc kb args).run Tryz.prog w = .ok (.enter kb args) w)
    (ha : Box3f w Ba (em, lo, hi)) (hc : w.cell? ⟨Bb, 0, none⟩ = some (.slice (some ⟨b, 0, none⟩) ls.length cap)) (hf : w.cell? ⟨By, 0, none⟩ = some (.func (.func kb) #[] caps)) (hr : SRowf w b ls) :
    Feeds Tryz.prog 194 #[.pointer (some ⟨Ba, 0, none⟩), .pointer (some ⟨Bb, 0, none⟩), .pointer (some ⟨By, 0, none⟩)] (fun x : Int => #[Value.int .u64 x]) S ((pairsL (em, lo, hi) ls).map fun p => g p.1 p.2) w := fun l J W hW st hY h0 =>
  each21_f l Ba Bb By b cap kb caps g em lo hi ls hlen S W hBa hBb hBy hb (fun k hk => Nat.lt_of_lt_of_le (hS k hk) hW.size) J hY (fun x y V hm hV => hby x y V hm ((But.of hW).trans hV)) eby st (ha.but (But.of (S := S) hW) hBa) ((But.of (S := S) hW).cell hBb hc) ((But.of (S := S) hW).cell hBy hf) (hr.but (But.of (S := S) hW) hb) h0
end Go.Proofs.YteafnkimcidkhaaGreat
