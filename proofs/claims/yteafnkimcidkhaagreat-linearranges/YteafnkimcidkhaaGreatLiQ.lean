/- slices.Equal of terms; cells that are stored. -/
import Derived.Test.YteafnkimcidkhaaGreatLiN
namespace Go.Proofs.YteafnkimcidkhaaGreat
open Go.RowKit
set_option linter.unusedVariables false
set_option linter.unusedSimpArgs false
set_option maxRecDepth 100000 in
theorem neq_term (a : Int) (b : Bool) (c d e : Int) (f : Bool) (g h : Int) (w : World) : (binOp .neq 99 (.agg #[.int .i64 a, .bool b, .int .u64 c, .int .u64 d]) (.agg #[.int .i64 e, .bool f, .int .u64 g, .int .u64 h])).run Tryz.prog w = .ok (.bool (!decide ((a, b, c, d) = (e, f, g, h)))) w := by
  by_cases h1 : a = e
  · by_cases h2 : b = f
    · by_cases h3 : c = g
      · by_cases h4 : d = h
        · subst h1; subst h2; subst h3; subst h4; simp [go_sem]
        · simp [go_sem, h1, h2, h3, h4]
      · simp [go_sem, h1, h2, h3]
    · simp [go_sem, h1, h2]
  · simp [go_sem, h1]
set_option maxRecDepth 100000 in
set_option maxHeartbeats 6400000 in
theorem lieq (az bz : List (Int × Bool × Int × Int)) (hn : az.length ≤ 1000) (hm : bz.length ≤ 1000) (va vb : Value) (w : World) (ta : TAt w va az) (tb : TAt w vb bz) :
    Calls Tryz.prog 66 #[va, vb] w fun e w' => e = .returned (.bool (decide (az = bz))) ∧ Below w.heap.size w w' := by
  by_cases hl : az.length = bz.length
  · rcases ta with ⟨rfl, rfl⟩ | ⟨p, o, cap, rfl, hcap, ht⟩
    · obtain ⟨pb, cb, rfl⟩ := tb.len
      have : bz = [] := by simpa using hl.symm
      subst this
      go_enter Tryz.func66, Tryz.ntmps66
      go_wp2_with fail
      refine wp_loop_rounds 1 ?_
      rw [rounds_succ]
      go_wp2_with fail
      go_ret
      exact ⟨rfl, Below.refl _ _⟩
    · rcases tb with ⟨rfl, rfl⟩ | ⟨p', o', cap', rfl, hcap', ht'⟩
      · have : az = [] := by simpa using hl
        subst this
        go_enter Tryz.func66, Tryz.ntmps66
        go_wp2_with fail
        refine wp_loop_rounds 1 ?_
        rw [rounds_succ]
        go_wp2_with fail
        go_ret
        exact ⟨rfl, Below.refl _ _⟩
      · obtain ⟨R, HR⟩ : ∃ R, Hid (decide (az = bz) = R) := ⟨_, rfl⟩
        rw [HR.out]
        rw [← hl]
        have hl' : ¬ (az.length : Int) ≠ (az.length : Int) := by simp
        go_enter Tryz.func66, Tryz.ntmps66
        go_wp2_with fail
        go_loopw [13] (fun i wr => ∃ (WR : World) (j : Nat), WR = wr ∧ j ≤ az.length ∧ i = .int .i64 j ∧ Hid (decide (az.drop j = bz.drop j) = R) ∧ Below w.heap.size w wr) (fun i _ => az.length - (intOf i).toNat)
        case atStart => exact ⟨_, 0, rfl, by omega, rfl, HR, Below.refl _ _⟩
        case round =>
          obtain ⟨WR, j, rfl, hj, rfl, hr, cc⟩ := hrel
          clear HR
          by_cases cj : j < az.length
          · have ci : (j : Int) < (az.length : Int) := by omega
            obtain ⟨t, et⟩ : ∃ t, az[j]? = some t := ⟨_, List.getElem?_eq_getElem cj⟩
            obtain ⟨u, eu⟩ : ∃ u, bz[j]? = some u := ⟨_, List.getElem?_eq_getElem (by omega)⟩
            obtain ⟨c0, c1, c2, c3⟩ := ht j t et
            obtain ⟨d0, d1, d2, d3⟩ := ht' j u eu
            replace c0 := sp_cell_on cc c0
            replace c1 := sp_cell_on cc c1
            replace c2 := sp_cell_on cc c2
            replace c3 := sp_cell_on cc c3
            replace d0 := sp_cell_on cc d0
            replace d1 := sp_cell_on cc d1
            replace d2 := sp_cell_on cc d2
            replace d3 := sp_cell_on cc d3
            have dr : ∀ (zs : List (Int × Bool × Int × Int)) (x : Int × Bool × Int × Int), zs[j]? = some x → zs.drop j = x :: zs.drop (j + 1) := fun zs x ex => by
              obtain ⟨hj', e1⟩ := List.getElem?_eq_some_iff.1 ex
              rw [List.drop_eq_getElem_cons hj', e1]
            have hr2 := hr.out
            rw [dr az t et, dr bz u eu] at hr2
            clear hr dr et eu ht ht'
            obtain ⟨tv, te, tl, th⟩ := t
            obtain ⟨uv, ue, ul, uh⟩ := u
            have hq := neq_term tv te tl th uv ue ul uh
            have mj : (j : Int) < (bz.length : Int) := by omega
            dsimp only at *
            by_cases htu : (tv, te, tl, th) = (uv, ue, ul, uh)
            · rw [decide_eq_true htu] at hq
              have HR : Hid (decide (az.drop (j + 1) = bz.drop (j + 1)) = R) := by rw [← hr2, htu]; simp [Hid]
              clear hr2 htu
              go_upto_region 6 with fail
              go_quiet (fail)
              go_wp2_with fail
              go_roundw
              case rel => exact ⟨_, j + 1, rfl, by omega, by go_num, HR, ⟨cc.os, cc.tape, cc.output, cc.size, cc.block⟩⟩
              case measure => simp [intOf]; omega
            · rw [decide_eq_false htu] at hq
              have hR : R = false := by rw [← hr2]; simp [htu]
              clear hr2 htu
              subst hR
              go_upto_region 6 with fail
              go_quiet (fail)
              go_wp2_with fail
              go_ret
              exact ⟨rfl, ⟨cc.os, cc.tape, cc.output, cc.size, cc.block⟩⟩
          · have ej : j = az.length := by omega
            subst ej
            have hR : true = R := by
              have := hr.out
              rw [List.drop_length, hl, List.drop_length] at this
              simpa using this
            subst hR
            clear hr
            go_wp2_with fail
            go_ret
            exact ⟨rfl, cc⟩
  · have hl' : (az.length : Int) ≠ (bz.length : Int) := by omega
    have hne : ¬ az = bz := fun q => hl (by rw [q])
    rw [decide_eq_false hne]
    obtain ⟨pa, ca, rfl⟩ := ta.len
    obtain ⟨pb, cb, rfl⟩ := tb.len
    clear hne
    go_enter Tryz.func66, Tryz.ntmps66
    go_wp2_with fail
    go_ret
    exact ⟨rfl, Below.refl _ _⟩
theorem lw_at {W : World} {b : Nat} {t : TypeId} {z : Nat × Nat} {c : Array Value} (q : W.heap[b]? = some (.cells c t z)) (j : Nat) (v : Value) : (W.setCell ⟨b, j, none⟩ v).heap[b]? = some (.cells (c.setIfInBounds j v) t z) := by
  simp [World.setCell, Array.getElem?_modify, q]
theorem lw_off {W : World} {b c : Nat} (j : Nat) (v : Value) (h : b ≠ c) : (W.setCell ⟨b, j, none⟩ v).heap[c]? = W.heap[c]? := by
  simp [World.setCell, Array.getElem?_modify, h]
/-- Five cells stored, one behind the other. -/
def set5 (W : World) (b : Nat) (x0 x1 x2 x3 x4 : Value) : World := ((((W.setCell ⟨b, 0, none⟩ x0).setCell ⟨b, 1, none⟩ x1).setCell ⟨b, 2, none⟩ x2).setCell ⟨b, 3, none⟩ x3).setCell ⟨b, 4, none⟩ x4
theorem lw_set5 {W : World} {b : Nat} {t : TypeId} {z : Nat × Nat} {y0 y1 y2 y3 y4 : Value} (q : W.heap[b]? = some (.cells #[y0, y1, y2, y3, y4] t z)) (x0 x1 x2 x3 x4 : Value) : (set5 W b x0 x1 x2 x3 x4).heap[b]? = some (.cells #[x0, x1, x2, x3, x4] t z) := by
  have h := (lw_at (lw_at (lw_at (lw_at (lw_at q 0 x0) 1 x1) 2 x2) 3 x3) 4 x4)
  simpa [set5] using h
theorem lw_far5 {W : World} {b c : Nat} {o : Obj} (q : W.heap[c]? = some o) (x0 x1 x2 x3 x4 : Value) (h : b ≠ c) : (set5 W b x0 x1 x2 x3 x4).heap[c]? = some o := by
  rw [set5, lw_off _ _ h, lw_off _ _ h, lw_off _ _ h, lw_off _ _ h, lw_off _ _ h, q]
theorem lw_old {W : World} {c : Nat} {o : Obj} (q : W.heap[c]? = some o) (o' : Obj) : (W.alloc o').heap[c]? = some o := (Below.heap_alloc W o' c (Array.getElem?_eq_some_iff.1 q).1).trans q
theorem lw_lt {W : World} {c : Nat} {o : Obj} (q : W.heap[c]? = some o) : c < W.heap.size := (Array.getElem?_eq_some_iff.1 q).1
theorem lw_on {X v : World} {b : Nat} {o : Obj} (g : Below X.heap.size X v) (q : X.heap[b]? = some o) : v.heap[b]? = some o := (g.block b (Array.getElem?_eq_some_iff.1 q).1).trans q
theorem lw_cells5 {v : World} {b : Nat} {t : TypeId} {x0 x1 x2 x3 x4 : Value} (q : v.heap[b]? = some (.cells #[x0, x1, x2, x3, x4] t (0, 0))) : v.cell? ⟨b, 0, none⟩ = some x0 ∧ v.cell? ⟨b, 1, none⟩ = some x1 ∧ v.cell? ⟨b, 2, none⟩ = some x2 ∧ v.cell? ⟨b, 3, none⟩ = some x3 ∧ v.cell? ⟨b, 4, none⟩ = some x4 ∧ ∀ j, v.frozen? ⟨b, j, none⟩ = false :=
  ⟨by simp [World.cell?, q], by simp [World.cell?, q], by simp [World.cell?, q], by simp [World.cell?, q], by simp [World.cell?, q], fun j => by simp [World.frozen?, q]⟩
theorem lw_sp5 {w W : World} (h : Below w.heap.size w W) {b : Nat} (hb : w.heap.size ≤ b) (x0 x1 x2 x3 x4 : Value) : Below w.heap.size w (set5 W b x0 x1 x2 x3 x4) :=
  ((((h.setCell (p := ⟨b, 0, none⟩) hb x0).setCell (p := ⟨b, 1, none⟩) hb x1).setCell (p := ⟨b, 2, none⟩) hb x2).setCell (p := ⟨b, 3, none⟩) hb x3).setCell (p := ⟨b, 4, none⟩) hb x4
/-- A slice that does not lie in a block. -/
def Far (b : Nat) (v : Value) : Prop := ∀ bb o k c, v = .slice (some ⟨bb, o, none⟩) k c → k ≠ 0 → bb ≠ b
theorem TAt.far1 {b j : Nat} {V : World} {v x : Value} {ls : List (Int × Bool × Int × Int)} (h : TAt V v ls) (hf : Far b v) : TAt (V.setCell ⟨b, j, none⟩ x) v ls := by
  rcases h with h | ⟨bb, o, cap, rfl, hc, h⟩
  · exact Or.inl h
  · refine Or.inr ⟨bb, o, cap, rfl, hc, fun i t hi => ?_⟩
    have hl : ls.length ≠ 0 := by
      obtain ⟨hi', _⟩ := List.getElem?_eq_some_iff.1 hi
      omega
    have hb := hf bb o _ _ rfl hl
    obtain ⟨h0, h1, h2, h3⟩ := h i t hi
    exact ⟨sp_keep1 h0 hb x, sp_keep1 h1 hb x, sp_keep1 h2 hb x, sp_keep1 h3 hb x⟩
theorem TAt.far5 {b : Nat} {V : World} {v : Value} {ls : List (Int × Bool × Int × Int)} (h : TAt V v ls) (hf : Far b v) (x0 x1 x2 x3 x4 : Value) : TAt (set5 V b x0 x1 x2 x3 x4) v ls :=
  ((((h.far1 hf).far1 hf).far1 hf).far1 hf).far1 hf
theorem far_new {V : World} {v : Value} {ls : List (Int × Bool × Int × Int)} (h : TAt V v ls) : Far V.heap.size v := by
  rcases h with ⟨rfl, rfl⟩ | ⟨bb, o, cap, rfl, hc, h⟩
  · intro b o k c e
    cases e
  · intro b o' k c e hk
    cases e
    cases ls with
    | nil => simp at hk
    | cons t ts => exact Nat.ne_of_lt (World.block_lt_of_cell? V _ (h 0 t rfl).1)
theorem far_up {n b : Nat} {v : Value} (h : Up n v) (hb : b < n) : Far b v := fun bb o k c e _ => by have := h bb o k c e; omega
theorem far_old {W : World} {b : Nat} {v : Value} {ls : List (Int × Bool × Int × Int)} (h : TAt W v ls) (hb : W.heap.size ≤ b) : Far b v := by
  rcases h with ⟨rfl, rfl⟩ | ⟨bb, o, cap, rfl, hc, h⟩
  · intro b o k c e
    cases e
  · intro b' o' k c e hk
    cases e
    cases ls with
    | nil => simp at hk
    | cons t ts =>
      have := World.block_lt_of_cell? W _ (h 0 t rfl).1
      simp only at this
      omega
end Go.Proofs.YteafnkimcidkhaaGreat
