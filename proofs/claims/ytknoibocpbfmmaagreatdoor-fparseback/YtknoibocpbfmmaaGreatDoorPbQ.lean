/- tokensOf: the tokens with one more, of no kind, at the end. -/
import Derived.Test.YtknoibocpbfmmaaGreatDoorPbP
import Derived.Test.YtknoibocpbfmmaaGreatDoorFxL
import Derived.OwnWalk
import Derived.Maps.AppendAt
namespace Go.Proofs.YtknoibocpbfmmaaGreatDoor
open Go.RowKit
set_option linter.unusedVariables false
set_option linter.unusedSimpArgs false
set_option maxRecDepth 100000 in
theorem lex_info : (Tryz.prog.info? 45).map (fun i => (i.zero, i.size, i.bytes)) = some (some (.agg #[.int .i64 0, .string ⟨#[]⟩, .int .i64 0]), 3, 32) := by kernel_rfl
theorem lx_cell (w : World) (x y z : Value) (t : TypeId) : ∀ j v, [x, y, z][j]? = some v → (w.alloc (.cells #[x, y, z] t)).cell? (Addr.add ⟨w.heap.size, 0, none⟩ j) = some v := by
  intro j v h
  match j, h with
  | 0, h => simp at h; subst h; simp [go_sem, Addr.add]
  | 1, h => simp at h; subst h; simp [go_sem, Addr.add]
  | 2, h => simp at h; subst h; simp [go_sem, Addr.add]
  | j + 3, h => simp at h
theorem lx_one (k a : Int) (s : ByteArray) : ∀ u ∈ [Value.int .i64 k, .string s, .int .i64 a], u.oneCell' = true := by
  intro u hu; simp at hu; rcases hu with rfl | rfl | rfl <;> rfl
theorem lx_shape {w : World} {base n size : Nat} {e : TypeId} {v : Value} {xs : List Value} (h : w.ownsRow base e size v n xs) : ∃ (o : Option Addr) (cap : Nat), v = .slice o n cap := by
  rcases h.2 with ⟨rfl, rfl⟩ | ⟨g, cap, cur, rfl, _⟩
  · exact ⟨none, 0, rfl⟩
  · exact ⟨_, _, rfl⟩
set_option maxRecDepth 100000 in
set_option maxHeartbeats 1600000 in
theorem ptokens (v : Value) (n base : Nat) (xs : List Value) (E : Int) (w : World) (own : w.ownsRow base 45 3 v n xs) (hn : n ≤ 1099511627776) (hb : base ≤ w.heap.size) :
    Calls Tryz.prog 38 #[v, .int .i64 E] w fun e w' => ∃ v', e = .returned (.agg #[v']) ∧ w'.ownsRow base 45 3 v' (n + 1) (xs ++ [.int .i64 0, .string tx0, .int .i64 E]) ∧ w.heap.size ≤ w'.heap.size ∧ (∀ k, k < w.heap.size → v.ownBlock ≠ some k → w'.heap[k]? = w.heap[k]?) ∧ w'.os = w.os ∧ w'.tape = w.tape ∧ w'.output = w.output := by
  obtain ⟨i0, hi, hz0, hz1, hz2⟩ : ∃ i, Tryz.prog.info? 45 = some i ∧ i.zero = some (.agg #[.int .i64 0, .string ⟨#[]⟩, .int .i64 0]) ∧ i.size = 3 ∧ i.bytes = 32 := by
    have h := lex_info
    cases hq : Tryz.prog.info? 45 with
    | none => rw [hq] at h; cases h
    | some i => rw [hq] at h; simp only [Option.map_some, Option.some.injEq, Prod.mk.injEq] at h; exact ⟨i, rfl, h.1, h.2.1, h.2.2⟩
  obtain ⟨c, hc⟩ : ∃ c, w.heap.size = c := ⟨_, rfl⟩
  obtain ⟨vo, vcap, rfl⟩ : ∃ (o : Option Addr) (cap : Nat), v = .slice o n cap := by
    rcases own.2 with ⟨rfl, rfl⟩ | ⟨g, cap, cur, rfl, _⟩
    · exact ⟨none, 0, rfl⟩
    · exact ⟨_, _, rfl⟩
  have l1 : n + 1 ≤ maxLen := by unfold maxLen; omega
  have l2 : (n + 1) * 32 ≤ 140737488355328 := by omega
  go_enter Tryz.func38, Tryz.ntmps38
  have sz1 : (w.alloc (.cells #[.slice none 0 0] 76)).heap.size = c + 1 := by rw [World.size_alloc, hc]
  have hn3 : ∀ j u, [Value.int .i64 0, .string ⟨#[]⟩, .int .i64 E][j]? = some u → ((w.alloc (.cells #[.slice none 0 0] 76)).alloc (.cells #[.int .i64 0, .string ⟨#[]⟩, .int .i64 E] 45)).cell? (Addr.add ⟨c + 1, 0, none⟩ j) = some u := by rw [← sz1]; exact lx_cell _ _ _ _ _
  have own2 := (own.alloc (.cells #[.slice none 0 0] 76)).alloc (.cells #[.int .i64 0, .string ⟨#[]⟩, .int .i64 E] 45)
  have hb2 : base ≤ ((w.alloc (.cells #[.slice none 0 0] 76)).alloc (.cells #[.int .i64 0, .string ⟨#[]⟩, .int .i64 E] 45)).heap.size := by rw [World.size_alloc, World.size_alloc]; omega
  have own' : Hid _ := own
  have ltO : Hid (∀ k, (Value.slice vo n vcap).ownBlock = some k → k < w.heap.size) := fun k h => (own.lt k h).2
  have qc : ((w.alloc (.cells #[.slice none 0 0] 76)).alloc (.cells #[.int .i64 0, .string ⟨#[]⟩, .int .i64 E] 45)).heap[c]? = some (.cells #[.slice none 0 0] 76 (0, 0)) := (Below.heap_alloc (w.alloc (.cells #[.slice none 0 0] 76)) _ c (by rw [World.size_alloc]; omega)).trans (hc ▸ World.alloc_heap_new w (.cells #[.slice none 0 0] 76))
  have sz2 : ((w.alloc (.cells #[.slice none 0 0] 76)).alloc (.cells #[.int .i64 0, .string ⟨#[]⟩, .int .i64 E] 45)).heap.size = c + 2 := by rw [World.size_alloc, sz1]
  have qc' : Hid _ := qc
  clear qc
  have hc' : Hid (w.heap.size = c) := hc
  clear own
  go_upto_region 1 with fail
  go_wp2_with (first
    | (at_builtin; refine wpList_append_own_at _ rfl _ _ 40 rfl base 45 i0 (.agg #[.int .i64 0, .string ⟨#[]⟩, .int .i64 0]) 3 32 Tryz.underlying40 hi hz0 hz1 hz2 rfl (by decide) _ _ _ rfl own2 ⟨c + 1, 0, none⟩ 1 1 [.int .i64 0, .string ⟨#[]⟩, .int .i64 E] rfl rfl hn3 (lx_one _ _ _) l1 l2 hb2 ?_; intro v' V3 hown' hgrow hnil hat; obtain ⟨vo2, vc2, rfl⟩ := lx_shape hown'; have q3 := (hgrow.block c (by omega) (fun e => by have := ltO.out c e.symm; omega)).trans qc'.out; have c0 : V3.cell? ⟨c, 0, none⟩ = some (.slice none 0 0) := (by simp [World.cell?, q3]); have cf : ∀ j, V3.frozen? ⟨c, j, none⟩ = false := (fun j => by simp [World.frozen?, q3]))
    | fail)
  have g0 : (V3.setCell ⟨c, 0, none⟩ (.slice vo2 (n + 1) vc2)).cell? ⟨c, 0, none⟩ = some (.slice vo2 (n + 1) vc2) := by simp [go_sem, c0]
  have hne : ∀ g, (Value.slice vo2 (n + 1) vc2).ownBlock = some g → g ≠ c := fun g hg => by
    rcases hat with h | h
    · rw [h] at hg
      have := ltO.out g hg
      omega
    · rw [h, sz2] at hg
      cases hg
      omega
  refine bodyPost_ret (v := .agg #[.slice vo2 (n + 1) vc2]) (by simp [results, Tryz.results38, go_sem, g0]) rfl ⟨_, rfl, ?_, ?_, fun k hk hn2 => ?_, hgrow.os, hgrow.tape, hgrow.output⟩
  · obtain ⟨h1, h2⟩ := hown'
    refine ⟨h1, h2.imp id ?_⟩
    rintro ⟨g, cap, cur, e1, e2, e3, e4⟩
    exact ⟨g, cap, cur, e1, e2, by rw [Below.heap_setCell _ _ _ _ (hne g (by rw [e1]; rfl))]; exact e3, e4⟩
  · have := hgrow.size
    rw [sz2] at this
    simp [go_sem]
    omega
  · rw [Below.heap_setCell _ _ _ _ (by show k ≠ c; omega)]
    refine (hgrow.block k (by omega) (fun e => hn2 e.symm)).trans ?_
    exact (Below.heap_alloc _ _ k (by rw [World.size_alloc]; omega)).trans (Below.heap_alloc _ _ k hk)
end Go.Proofs.YtknoibocpbfmmaaGreatDoor

