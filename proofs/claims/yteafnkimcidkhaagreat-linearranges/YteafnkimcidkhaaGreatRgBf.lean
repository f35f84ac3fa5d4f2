/- span.bothEnds and its closure: both ends of one stretch with both ends of each of others, in order. -/
import Derived.Test.YteafnkimcidkhaaGreatRgEf
namespace Go.Proofs.YteafnkimcidkhaaGreat
open Go.RowKit Go.Shelf
set_option linter.unusedVariables false
set_option linter.unusedSimpArgs false
attribute [local go_sem] Oper.semAt_some
/-- A stretch in a block of its own. -/
def Box3f (W : World) (b : Nat) (s : Bool × Int × Int) : Prop := W.cell? ⟨b, 0, none⟩ = some (.bool s.1) ∧ W.cell? ⟨b, 1, none⟩ = some (.int .u64 s.2.1) ∧ W.cell? ⟨b, 2, none⟩ = some (.int .u64 s.2.2)
theorem Box3f.but {S : Nat → Prop} {A B : World} {b : Nat} {s : Bool × Int × Int} (h : Box3f A b s) (hb : But S A B) (hs : ¬ S b) : Box3f B b s := ⟨hb.cell hs h.1, hb.cell hs h.2.1, hb.cell hs h.2.2⟩
set_option maxRecDepth 100000 in
set_option maxHeartbeats 4000000 in
theorem both1_f (l Ba Bb b cap : Nat) (em : Bool) (lo hi : Int) (ls : List (Bool × Int × Int)) (hlen : ls.length ≤ 1000) (S : Nat → Prop) (W : World) (hBa : ¬ S Ba) (hBb : ¬ S Bb) (hb : ¬ S b) (hS : ∀ k, S k → k < W.heap.size) (J : List (Int × Int) → World → Prop)
    (hY : ∀ pre (x : Int × Int) W1, pre ++ [x] <+: pairsL (em, lo, hi) ls → J pre W1 → ∀ m, YieldAt Fence.wide m Tryz.prog l #[.int .u64 x.1, .int .u64 x.2] W1 fun e W' => e = .returned (.bool true) ∧ J (pre ++ [x]) W' ∧ But S W1 W')
    (st : Stable W.heap.size J) (ha : Box3f W Ba (em, lo, hi)) (hc : W.cell? ⟨Bb, 0, none⟩ = some (.slice (some ⟨b, 0, none⟩) ls.length cap)) (hr : SRowf W b ls) (h0 : J [] W) :
    Calls Tryz.prog 207 #[.func (.yield l) #[] #[], .pointer (some ⟨Ba, 0, none⟩), .pointer (some ⟨Bb, 0, none⟩)] W fun e W' => (∃ v, e = .returned v) ∧ J (pairsL (em, lo, hi) ls) W' := by
  obtain ⟨a1, a2, a3⟩ := ha
  have lBa : Ba < W.heap.size := World.block_lt_of_cell? W _ a1
  have lBb : Bb < W.heap.size := World.block_lt_of_cell? W _ hc
  have hends := ends_f
  refine (callsIn_wide (n := 3)).1 ?_
  refine callsIn_of_wp_marks Tryz.func207 rfl trivial ?_ rfl
  simp only [Tryz.ntmps207, List.size_toArray, List.length_cons, List.length_nil, Nat.reduceAdd, Nat.reduceSub, Array.replicate_succ, Array.replicate_zero, List.push_toArray, List.append_toArray, List.nil_append, List.cons_append]
  gi_wp2_with (refine ⟨trivial, ?_⟩; gi_at_call 208; refine (callsIn_wide.2 (hends _ ⟨_, _, _, rfl⟩ _)).mono ?_; rintro e w' ⟨rfl, rfl⟩)
  obtain ⟨W0, hW0⟩ : ∃ W0, ((W.alloc (.cells #[.func (.yield l) #[] #[]] 93)).alloc (.cells #[.bool em, .int .u64 lo, .int .u64 hi] 126)).alloc (.cells #[.slice (some ⟨W.heap.size + 1, 0, none⟩) 1 1] 211) = W0 := ⟨_, rfl⟩
  have z0 : W0.heap.size = W.heap.size + 3 := by rw [← hW0]; simp
  have q0 : W0.cell? ⟨W.heap.size, 0, none⟩ = some (.func (.yield l) #[] #[]) := by rw [← hW0]; simp [go_sem]
  have q1 : SRowf W0 (W.heap.size + 1) [(em, lo, hi)] := fun j s hj => by
    cases j with
    | zero => simp at hj; subst hj; rw [← hW0]; simp [go_sem]
    | succ n => simp at hj
  have q2 : W0.cell? ⟨W.heap.size + 1 + 1, 0, none⟩ = some (.slice (some ⟨W.heap.size + 1, 0, none⟩) [(em, lo, hi)].length 1) := by rw [← hW0]; simp [go_sem]
  have Bw : Below W.heap.size W W0 := by rw [← hW0]; exact (((Below.refl _ W).alloc (Nat.le_refl _) _).alloc (by simp) _).alloc (by simp; omega) _
  have B0 : But S W W0 := But.of Bw
  have qc := B0.cell hBb hc
  have qr := hr.but B0 hb
  have nS : ∀ k, W.heap.size ≤ k → ¬ S k := fun k hk h => absurd (hS k h) (by omega)
  rw [hW0]
  clear hW0 a1 a2 a3 hc hr
  refine feed_out (n := 3) rfl (enters_of Tryz.func211 (by kernel_rfl) rfl) (ends_feeds_f (W.heap.size + 1 + 1) (W.heap.size + 1) 1 [(em, lo, hi)] (by simp) S W0 (nS _ (by omega)) (nS _ (by omega)) (fun k hk => by have := hS k hk; omega) q2 q1) (fun _ => rfl) (fun k hk => by have := hS k hk; omega)
    (fun pre W' => J (withL ls pre) W' ∧ But S W0 W') (Stable.and (fun s A B h hb => st _ _ _ h (hb.mono (by omega))) (stable_but (Nat.le_refl _))) ⟨st _ _ _ h0 Bw, But.refl _ _⟩
    (fun l0 x a' W' => ∃ Bx, l0 < Bx ∧ W.heap.size ≤ Bx ∧ W'.cell? ⟨Bx, 0, none⟩ = some (.int .u64 x) ∧ a' = { tmps := #[.func (.yield l) #[] #[], .pointer (some ⟨Ba, 0, none⟩), .pointer (some ⟨Bb, 0, none⟩), .pointer (some ⟨W.heap.size, 0, none⟩), .pointer (some ⟨Bx, 0, none⟩), undef, .agg #[.bool em, .int .u64 lo, .int .u64 hi], .slice (some ⟨W.heap.size + 1, 0, none⟩) 1 1, .func (.func 211) #[] #[.pointer (some ⟨W.heap.size + 1 + 1, 0, none⟩)], .int .u64 x, undef, undef, undef, undef, undef, undef, undef, undef], defers := [] })
    (fun l0 x a' A B h ho => by obtain ⟨Bx, h1, h2, h3, h4⟩ := h; exact ⟨Bx, h1, h2, (World.cell?_of_block (ho.block Bx (by omega))).trans h3, h4⟩) ?assign ?body ?done
  case assign =>
    rintro m l0 pre x W' K hl0 ll0 hp ⟨hJ, hB⟩ hK
    have z := hB.size
    gi_wp2
    exact hK _ _ ((But.refl _ _).alloc _) ⟨st _ _ _ hJ ((Below.refl _ _).alloc (by omega) _), hB.alloc _⟩ ⟨W'.heap.size, by omega, by omega, by simp [go_sem], rfl⟩
  case body =>
    rintro m l0 pre x a' W' hl0 hrec hp ⟨hJ, hB⟩ ⟨Bx, hBx, hBx2, cx, rfl⟩
    have z := hB.size
    have c0 := hB.cell (nS _ (Nat.le_refl _)) q0
    have c1 := hB.cell hBb qc
    have c2 := qr.but hB hb
    gi_wp2_with (refine ⟨trivial, (fun h => by cases h), ?_⟩; gi_at_call 208; refine (CallsIn.inRound l0 (callsIn_wide.2 (hends _ ⟨_, _, _, rfl⟩ _))).mono ?_; rintro e w' ⟨rfl, rfl⟩)
    obtain ⟨W2, hW2⟩ : ∃ W2, W'.alloc (.cells #[.slice (some ⟨b, 0, none⟩) ls.length cap] 211) = W2 := ⟨_, rfl⟩
    have z2 : W2.heap.size = W'.heap.size + 1 := by rw [← hW2]; simp
    have Bw2 : Below W'.heap.size W' W2 := by rw [← hW2]; exact (Below.refl _ _).alloc (Nat.le_refl _) _
    have B2 : But S W' W2 := But.of Bw2
    have d0 := B2.cell (nS _ (Nat.le_refl _)) c0
    have d1 : W2.cell? ⟨W'.heap.size, 0, none⟩ = some (.slice (some ⟨b, 0, none⟩) ls.length cap) := by rw [← hW2]; simp [go_sem]
    have d2 := c2.but B2 hb
    have dx := B2.cell (nS _ hBx2) cx
    have hrec2 : ∃ r, W2.heap[l0]? = some (.loop r) := by
      obtain ⟨r, hr⟩ := hrec
      exact ⟨r, (Bw2.block l0 (Array.getElem?_eq_some_iff.1 hr).1).trans hr⟩
    rw [hW2]
    clear hW2 c0 c1 c2 cx
    refine feed_in hrec2 rfl (enters_of Tryz.func211 (by kernel_rfl) rfl) (ends_feeds_f W'.heap.size b cap ls hlen S W2 (nS _ (by omega)) hb (fun k hk => by have := hS k hk; omega) d1 d2) (fun _ => rfl) (fun k hk => by have := hS k hk; omega)
      (fun pre' V => J (withL ls pre ++ pre'.map fun y => (x, y)) V ∧ But S W2 V) (Stable.and (fun s A B h hb => st _ _ _ h (hb.mono (by omega))) (stable_but (Nat.le_refl _))) ⟨by simpa using st _ _ _ hJ (Bw2.mono (by omega)), But.refl _ _⟩
      (fun l2 y a'' V => a'' = { tmps := #[.func (.yield l) #[] #[], .pointer (some ⟨Ba, 0, none⟩), .pointer (some ⟨Bb, 0, none⟩), .pointer (some ⟨W.heap.size, 0, none⟩), .pointer (some ⟨Bx, 0, none⟩), .int .u64 y, .agg #[.bool em, .int .u64 lo, .int .u64 hi], .slice (some ⟨W.heap.size + 1, 0, none⟩) 1 1, .func (.func 211) #[] #[.pointer (some ⟨W.heap.size + 1 + 1, 0, none⟩)], .int .u64 x, .slice (some ⟨b, 0, none⟩) ls.length cap, .func (.func 211) #[] #[.pointer (some ⟨W'.heap.size, 0, none⟩)], .int .u64 y, undef, undef, undef, undef, undef], defers := [] })
      (fun l2 y a'' A B h ho => h) ?assign2 ?body2 ?done2
    case assign2 =>
      rintro m2 l2 pre' y V K hl2 ll2 hp' hI hK
      gi_wp2
      exact hK _ _ (But.refl _ _) hI rfl
    case body2 =>
      rintro m2 l2 pre' y a'' V hl2 hrec3 hp' ⟨hJ2, hB2⟩ rfl
      have f0 := hB2.cell (nS _ (Nat.le_refl _)) d0
      have fx := hB2.cell (nS _ hBx2) dx
      obtain ⟨fn1, t1, as1, bo1, hy1, hR1⟩ := hY _ (x, y) V (withL_mid ls hp hp') hJ2 (m2 - 1)
      dsimp only at hy1
      gi_wp2
      refine ⟨(fun h => by cases h), ?_⟩
      have hR2 : RoundIn (Fence.wide.inRound l2) (m2 - 1) Tryz.prog l fn1 t1 as1 bo1 V _ := hR1
      refine hR2.mono ?_
      rintro e V2 ⟨rfl, hJ3, hB3⟩
      gi_wp2
      exact ⟨by simpa using hJ3, hB2.trans hB3⟩
    case done2 =>
      rintro V ⟨hJ2, hB2⟩
      gi_wp2
      exact ⟨B2.trans hB2, by rw [withL_snoc]; exact hJ2, (hB.trans B2).trans hB2⟩
  case done =>
    rintro D W' hD ⟨hJ, hB⟩ hK
    gi_wp2
    refine ⟨by simp, .inl ⟨_, _, rfl, run_takeDeferred hK, ?_⟩⟩
    exact ⟨_, results_none rfl _ _ _, ⟨_, rfl⟩, st _ _ _ hJ ((OnlyAt.put _ _ _).below (by omega))⟩
set_option maxHeartbeats 1000000 in
theorem both_f (e : Bool) (lo hi : Int) (v : Value) (hv : ∃ b n cap, v = .slice (some ⟨b, 0, none⟩) n cap) (w : World) : Calls Tryz.prog 195 #[.agg #[.bool e, .int .u64 lo, .int .u64 hi], v] w fun r w' => r = .returned (.func (.func 207) #[] #[.pointer (some ⟨w.heap.size, 0, none⟩), .pointer (some ⟨w.heap.size + 1, 0, none⟩)]) ∧ w' = (w.alloc (.cells #[.bool e, .int .u64 lo, .int .u64 hi] 126)).alloc (.cells #[v] 211) := by
  obtain ⟨b, n, cap, rfl⟩ := hv
  go_enter Tryz.func195, Tryz.ntmps195
  go_wp2_with fail
  go_ret
  exact ⟨rfl, rfl⟩
theorem both_feeds_f (Ba Bb b cap : Nat) (em : Bool) (lo hi : Int) (ls : List (Bool × Int × Int)) (hlen : ls.length ≤ 1000) (S : Nat → Prop) (w : World) (hBa : ¬ S Ba) (hBb : ¬ S Bb) (hb : ¬ S b) (hS : ∀ k, S k → k < w.heap.size)
    (ha : Box3f w Ba (em, lo, hi)) (hc : w.cell? ⟨Bb, 0, none⟩ = some (.slice (some ⟨b, 0, none⟩) ls.length cap)) (hr : SRowf w b ls) :
    Feeds Tryz.prog 207 #[.pointer (some ⟨Ba, 0, none⟩), .pointer (some ⟨Bb, 0, none⟩)] (fun x : Int × Int => #[Value.int .u64 x.1, Value.int .u64 x.2]) S (pairsL (em, lo, hi) ls) w := fun l J W hW st hY h0 =>
  both1_f l Ba Bb b cap em lo hi ls hlen S W hBa hBb hb (fun k hk => Nat.lt_of_lt_of_le (hS k hk) hW.size) J hY st (ha.but (But.of (S := S) hW) hBa) ((But.of (S := S) hW).cell hBb hc) (hr.but (But.of (S := S) hW) hb) h0
end Go.Proofs.YteafnkimcidkhaaGreat
