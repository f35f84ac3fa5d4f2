/- Texts of the proof, put together. -/
import Derived.Test.YteafnkimcidkhaaGreatRG1
import Derived.Test.YteafnkimcidkhaaGreatRG2
import Derived.Test.YteafnkimcidkhaaGreatRSpWf
import Derived.Test.YteafnkimcidkhaaGreatShelf
import Derived.Test.YteafnkimcidkhaaGreatRMB1
import Derived.Test.YteafnkimcidkhaaGreatRMB2
import Derived.Test.YteafnkimcidkhaaGreatRMB3
import Derived.Test.YteafnkimcidkhaaGreatRSpF
import Derived.Test.YteafnkimcidkhaaGreatRSpFl
import Derived.Test.YteafnkimcidkhaaGreatRLjF
import Derived.Test.YteafnkimcidkhaaGreatRLjH
import Derived.Test.YteafnkimcidkhaaGreatRG3
import Derived.Test.YteafnkimcidkhaaGreatRLiF
import Derived.Test.YteafnkimcidkhaaGreatRLiG
import Derived.Test.YteafnkimcidkhaaGreatRLiH
import Derived.Test.YteafnkimcidkhaaGreatRLiI
import Derived.Test.YteafnkimcidkhaaGreatRLiJ
import Derived.Test.YteafnkimcidkhaaGreatRLiK
import Derived.Test.YteafnkimcidkhaaGreatRLiL
import Derived.Test.YteafnkimcidkhaaGreatRLiB
import Derived.Test.YteafnkimcidkhaaGreatRMB4
import Derived.Test.YteafnkimcidkhaaGreatRMB5
import Derived.Test.YteafnkimcidkhaaGreatRLiO
import Derived.Test.YteafnkimcidkhaaGreatRG5
import Derived.Test.YteafnkimcidkhaaGreatRG4
import Derived.Test.YteafnkimcidkhaaGreatRG6
import Derived.Test.YteafnkimcidkhaaGreatRG7
import Derived.Test.YteafnkimcidkhaaGreatRG8
import Derived.Test.YteafnkimcidkhaaGreatRG9
import Derived.Deep.DeepCutAuto
import Derived.RowKit
import Derived.Laws.Bits64
import Derived.Laws.Bits64b
import Derived.Lib.Mul64
import Derived.Lib.BitFns
import Derived.WalkKit
import Derived.WalkSpells
import Derived.StillTactics
import Derived.Laws.Pointers
import Derived.Laws.Externs
import Derived.Deep.RegionHeld3
import Derived.Below
import Derived.Shelf.Spec.BitsCarry
import Derived.BigQuiet
import Derived.Deep.QuietTactic
import Derived.ScopeJumps
import Derived.Deep.CutBlock
import Derived.Laws.BitsAllLaws
import Derived.Laws.EntriesVeiled
import Derived.Shelf.Abstract
import Derived.Deep.Draws
import Derived.Maps.AppendAt
import Derived.ProofKit
import Derived.OpenShut
import Derived.ChangeOld
import Derived.Lib.SmallJoins
import Derived.Deep.Strs
namespace Go.Proofs.YteafnkimcidkhaaGreat
open Go.RowKit
set_option linter.unusedVariables false
set_option linter.unusedSimpArgs false
set_option maxRecDepth 100000 in
theorem neq_term (a : Int) (b : Bool) (c d e : Int) (f : Bool) (g h : Int) (w : World) : (binOp .neq 99 (.agg #[.int .i64 a, .bool b, .int .u64 c, .int .u64 d]) (.agg #[.int .i64 e, .bool f, .int .u64 g, .int .u64 h])).run Tryz.prog w = .ok (.bool (!decide ((a, b, c, d) = (e, f, g, h)))) w := by
  by_cases h1 : a = e
  · by_cases h2 : b = f
    · by_cases h3 : c = g
      · by_cases h4 : d = h
        · subst h1; subst h2; subst h3; subst h4; simp [go_sem]
        · simp [go_sem, h1, h2, h3, h4]
      · simp [go_sem, h1, h2, h3]
    · simp [go_sem, h1, h2]
  · simp [go_sem, h1]
set_option maxRecDepth 100000 in
set_option maxHeartbeats 6400000 in
theorem lieq (az bz : List (Int × Bool × Int × Int)) (hn : az.length ≤ 1000) (hm : bz.length ≤ 1000) (va vb : Value) (w : World) (ta : TAt w va az) (tb : TAt w vb bz) :
    Calls Tryz.prog 66 #[va, vb] w fun e w' => e = .returned (.bool (decide (az = bz))) ∧ Below w.heap.size w w' := by
  by_cases hl : az.length = bz.length
  · rcases ta with ⟨rfl, rfl⟩ | ⟨p, o, cap, rfl, hcap, ht⟩
    · obtain ⟨pb, cb, rfl⟩ := tb.len
      have : bz = [] := by simpa using hl.symm
      subst this
      go_enter Tryz.func66, Tryz.ntmps66
      go_wp2_with fail
      refine wp_loop_rounds 1 ?_
      rw [rounds_succ]
      go_wp2_with fail
      go_ret
      exact ⟨rfl, Below.refl _ _⟩
    · rcases tb with ⟨rfl, rfl⟩ | ⟨p', o', cap', rfl, hcap', ht'⟩
      · have : az = [] := by simpa using hl
        subst this
        go_enter Tryz.func66, Tryz.ntmps66
        go_wp2_with fail
        refine wp_loop_rounds 1 ?_
        rw [rounds_succ]
        go_wp2_with fail
        go_ret
        exact ⟨rfl, Below.refl _ _⟩
      · obtain ⟨R, HR⟩ : ∃ R, Hid (decide (az = bz) = R) := ⟨_, rfl⟩
        rw [HR.out]
        rw [← hl]
        have hl' : ¬ (az.length : Int) ≠ (az.length : Int) := by simp
        go_enter Tryz.func66, Tryz.ntmps66
        go_wp2_with fail
        go_loopw [13] (fun i wr => ∃ (WR : World) (j : Nat), WR = wr ∧ j ≤ az.length ∧ i = .int .i64 j ∧ Hid (decide (az.drop j = bz.drop j) = R) ∧ Below w.heap.size w wr) (fun i _ => az.length - (intOf i).toNat)
        case atStart => exact ⟨_, 0, rfl, by omega, rfl, HR, Below.refl _ _⟩
        case round =>
          obtain ⟨WR, j, rfl, hj, rfl, hr, cc⟩ := hrel
          clear HR
          by_cases cj : j < az.length
          · have ci : (j : Int) < (az.length : Int) := by omega
            obtain ⟨t, et⟩ : ∃ t, az[j]? = some t := ⟨_, List.getElem?_eq_getElem cj⟩
            obtain ⟨u, eu⟩ : ∃ u, bz[j]? = some u := ⟨_, List.getElem?_eq_getElem (by omega)⟩
            obtain ⟨c0, c1, c2, c3⟩ := ht j t et
            obtain ⟨d0, d1, d2, d3⟩ := ht' j u eu
            replace c0 := sO cc c0
            replace c1 := sO cc c1
            replace c2 := sO cc c2
            replace c3 := sO cc c3
            replace d0 := sO cc d0
            replace d1 := sO cc d1
            replace d2 := sO cc d2
            replace d3 := sO cc d3
            have dr : ∀ (zs : List (Int × Bool × Int × Int)) (x : Int × Bool × Int × Int), zs[j]? = some x → zs.drop j = x :: zs.drop (j + 1) := fun zs x ex => by
              obtain ⟨hj', e1⟩ := List.getElem?_eq_some_iff.1 ex
              rw [List.drop_eq_getElem_cons hj', e1]
            have hr2 := hr.out
            rw [dr az t et, dr bz u eu] at hr2
            clear hr dr et eu ht ht'
            obtain ⟨tv, te, tl, th⟩ := t
            obtain ⟨uv, ue, ul, uh⟩ := u
            have hq := neq_term tv te tl th uv ue ul uh
            have mj : (j : Int) < (bz.length : Int) := by omega
            dsimp only at *
            by_cases htu : (tv, te, tl, th) = (uv, ue, ul, uh)
            · rw [decide_eq_true htu] at hq
              have HR : Hid (decide (az.drop (j + 1) = bz.drop (j + 1)) = R) := by rw [← hr2, htu]; simp [Hid]
              clear hr2 htu
              go_upto_region 6 with fail
              go_quiet (fail)
              go_wp2_with fail
              go_roundw
              case rel => exact ⟨_, j + 1, rfl, by omega, by go_num, HR, ⟨cc.os, cc.tape, cc.output, cc.size, cc.block⟩⟩
              case measure => simp [intOf]; omega
            · rw [decide_eq_false htu] at hq
              have hR : R = false := by rw [← hr2]; simp [htu]
              clear hr2 htu
              subst hR
              go_upto_region 6 with fail
              go_quiet (fail)
              go_wp2_with fail
              go_ret
              exact ⟨rfl, ⟨cc.os, cc.tape, cc.output, cc.size, cc.block⟩⟩
          · have ej : j = az.length := by omega
            subst ej
            have hR : true = R := by
              have := hr.out
              rw [List.drop_length, hl, List.drop_length] at this
              simpa using this
            subst hR
            clear hr
            go_wp2_with fail
            go_ret
            exact ⟨rfl, cc⟩
  · have hl' : (az.length : Int) ≠ (bz.length : Int) := by omega
    have hne : ¬ az = bz := fun q => hl (by rw [q])
    rw [decide_eq_false hne]
    obtain ⟨pa, ca, rfl⟩ := ta.len
    obtain ⟨pb, cb, rfl⟩ := tb.len
    clear hne
    go_enter Tryz.func66, Tryz.ntmps66
    go_wp2_with fail
    go_ret
    exact ⟨rfl, Below.refl _ _⟩
theorem lw_at {W : World} {b : Nat} {t : TypeId} {z : Nat × Nat} {c : Array Value} (q : W.heap[b]? = some (.cells c t z)) (j : Nat) (v : Value) : (W.setCell ⟨b, j, none⟩ v).heap[b]? = some (.cells (c.setIfInBounds j v) t z) := by
  simp [World.setCell, Array.getElem?_modify, q]
theorem lw_off {W : World} {b c : Nat} (j : Nat) (v : Value) (h : b ≠ c) : (W.setCell ⟨b, j, none⟩ v).heap[c]? = W.heap[c]? := by
  simp [World.setCell, Array.getElem?_modify, h]
def set5 (W : World) (b : Nat) (x0 x1 x2 x3 x4 : Value) : World := ((((W.setCell ⟨b, 0, none⟩ x0).setCell ⟨b, 1, none⟩ x1).setCell ⟨b, 2, none⟩ x2).setCell ⟨b, 3, none⟩ x3).setCell ⟨b, 4, none⟩ x4
theorem lw_set5 {W : World} {b : Nat} {t : TypeId} {z : Nat × Nat} {y0 y1 y2 y3 y4 : Value} (q : W.heap[b]? = some (.cells #[y0, y1, y2, y3, y4] t z)) (x0 x1 x2 x3 x4 : Value) : (set5 W b x0 x1 x2 x3 x4).heap[b]? = some (.cells #[x0, x1, x2, x3, x4] t z) := by
  have h := (lw_at (lw_at (lw_at (lw_at (lw_at q 0 x0) 1 x1) 2 x2) 3 x3) 4 x4)
  simpa [set5] using h
theorem lw_far5 {W : World} {b c : Nat} {o : Obj} (q : W.heap[c]? = some o) (x0 x1 x2 x3 x4 : Value) (h : b ≠ c) : (set5 W b x0 x1 x2 x3 x4).heap[c]? = some o := by
  rw [set5, lw_off _ _ h, lw_off _ _ h, lw_off _ _ h, lw_off _ _ h, lw_off _ _ h, q]
theorem lw_old {W : World} {c : Nat} {o : Obj} (q : W.heap[c]? = some o) (o' : Obj) : (W.alloc o').heap[c]? = some o := (Below.heap_alloc W o' c (Array.getElem?_eq_some_iff.1 q).1).trans q
theorem lw_lt {W : World} {c : Nat} {o : Obj} (q : W.heap[c]? = some o) : c < W.heap.size := (Array.getElem?_eq_some_iff.1 q).1
theorem lw_on {X v : World} {b : Nat} {o : Obj} (g : Below X.heap.size X v) (q : X.heap[b]? = some o) : v.heap[b]? = some o := (g.block b (Array.getElem?_eq_some_iff.1 q).1).trans q
theorem lw_cells5 {v : World} {b : Nat} {t : TypeId} {x0 x1 x2 x3 x4 : Value} (q : v.heap[b]? = some (.cells #[x0, x1, x2, x3, x4] t (0, 0))) : v.cell? ⟨b, 0, none⟩ = some x0 ∧ v.cell? ⟨b, 1, none⟩ = some x1 ∧ v.cell? ⟨b, 2, none⟩ = some x2 ∧ v.cell? ⟨b, 3, none⟩ = some x3 ∧ v.cell? ⟨b, 4, none⟩ = some x4 ∧ ∀ j, v.frozen? ⟨b, j, none⟩ = false :=
  ⟨by simp [World.cell?, q], by simp [World.cell?, q], by simp [World.cell?, q], by simp [World.cell?, q], by simp [World.cell?, q], fun j => by simp [World.frozen?, q]⟩
theorem lw_sp5 {w W : World} (h : Below w.heap.size w W) {b : Nat} (hb : w.heap.size ≤ b) (x0 x1 x2 x3 x4 : Value) : Below w.heap.size w (set5 W b x0 x1 x2 x3 x4) :=
  ((((h.setCell (p := ⟨b, 0, none⟩) hb x0).setCell (p := ⟨b, 1, none⟩) hb x1).setCell (p := ⟨b, 2, none⟩) hb x2).setCell (p := ⟨b, 3, none⟩) hb x3).setCell (p := ⟨b, 4, none⟩) hb x4
end Go.Proofs.YteafnkimcidkhaaGreat

namespace Go.Proofs.YteafnkimcidkhaaGreat
open Go.RowKit
set_option linter.unusedVariables false
set_option linter.unusedSimpArgs false
set_option maxRecDepth 100000 in
set_option maxHeartbeats 6400000 in
theorem fewA (wa ae : Bool) (al ah : Int) (v : Value) (ls : List (Int × Bool × Int × Int)) (w : World) (hv : TAt w v ls) :
    Calls Tryz.prog 18 #[.agg #[.bool wa, .bool ae, .int .u64 al, .int .u64 ah, v]] w fun e w' => ((ls.length ≤ 40 ∧ e = .returned (.agg #[.bool wa, .bool ae, .int .u64 al, .int .u64 ah, v])) ∨ (40 < ls.length ∧ ∃ b o ca, v = .slice (some ⟨b, o, none⟩) ls.length ca ∧ e = .returned (.agg #[.bool wa, .bool ae, .int .u64 al, .int .u64 ah, .slice (some ⟨b, o, none⟩) 40 ca]))) ∧ Below w.heap.size w w' := by
  have hv0 := hv
  obtain ⟨pa, ca, rfl⟩ := hv.len
  by_cases h40 : ls.length ≤ 40
  · have h40' : ¬ (40 : Int) < (ls.length : Int) := by omega
    go_enter Tryz.func18, Tryz.ntmps18
    go_upto_region 1 with fail
    obtain ⟨W, hW⟩ : ∃ W, ((w.alloc (.cells #[.bool wa, .bool ae, .int .u64 al, .int .u64 ah, .slice pa ls.length ca] 31)).alloc (.cells #[.bool false, .bool false, .int .u64 0, .int .u64 0, .slice none 0 0] 31)) = W := ⟨_, rfl⟩
    have a0 : W.cell? ⟨w.heap.size, 0, none⟩ = some (.bool wa) := by rw [← hW]; simp [go_sem]
    have a1 : W.cell? ⟨w.heap.size, 1, none⟩ = some (.bool ae) := by rw [← hW]; simp [go_sem]
    have a2 : W.cell? ⟨w.heap.size, 2, none⟩ = some (.int .u64 al) := by rw [← hW]; simp [go_sem]
    have a3 : W.cell? ⟨w.heap.size, 3, none⟩ = some (.int .u64 ah) := by rw [← hW]; simp [go_sem]
    have a4 : W.cell? ⟨w.heap.size, 4, none⟩ = some (.slice pa ls.length ca) := by rw [← hW]; simp [go_sem]
    have r0 : W.cell? ⟨w.heap.size + 1, 0, none⟩ = some (.bool false) := by rw [← hW]; simp [go_sem]
    have r1 : W.cell? ⟨w.heap.size + 1, 1, none⟩ = some (.bool false) := by rw [← hW]; simp [go_sem]
    have r2 : W.cell? ⟨w.heap.size + 1, 2, none⟩ = some (.int .u64 0) := by rw [← hW]; simp [go_sem]
    have r3 : W.cell? ⟨w.heap.size + 1, 3, none⟩ = some (.int .u64 0) := by rw [← hW]; simp [go_sem]
    have r4 : W.cell? ⟨w.heap.size + 1, 4, none⟩ = some (.slice none 0 0) := by rw [← hW]; simp [go_sem]
    have bW : Below w.heap.size w W := by rw [← hW]; exact (sp_new (sp_new (Below.refl _ _) _) _)
    have zW : W.heap.size = w.heap.size + 2 := by rw [← hW]; simp
    have fz : ∀ j, W.frozen? ⟨w.heap.size + 1, j, none⟩ = false := by intro j; rw [← hW]; simp [go_sem]
    rw [hW]
    clear hW
    replace zW := Nat.le_of_eq zW.symm
    go_wp2_with fail
    exact bodyPost_ret (v := .agg #[.bool wa, .bool ae, .int .u64 al, .int .u64 ah, .slice pa ls.length ca]) (by simp [results, Tryz.results18, go_sem, r0, r1, r2, r3, r4]) rfl ⟨Or.inl (by first | exact ⟨h40, rfl⟩ | exact rfl), (by (repeat (first | with_reducible assumption | with_reducible refine li_set1 ?_ (by omega) _ | with_reducible refine sp_new ?_ _)))⟩
  · have h40' : (40 : Int) < (ls.length : Int) := by omega
    rcases hv with ⟨_, h0⟩ | ⟨b, o, cap, hs, hc, hcells⟩
    · rw [h0] at h40; simp at h40
    · cases hs
      have hc' : (40 : Int) ≤ (ca : Int) := by omega
      have hc2 : 40 ≤ ca := by omega
      have ht : TAt w (.slice (some ⟨b, o, none⟩) 40 ca) (ls.take 40) := by
        have e40 : (ls.take 40).length = 40 := by simp; omega
        refine Or.inr ⟨b, o, ca, by rw [e40], by omega, fun j t hj => hcells j t ?_⟩
        rw [List.getElem?_take] at hj
        split at hj
        · exact hj
        · cases hj
      go_enter Tryz.func18, Tryz.ntmps18
      go_upto_region 1 with fail
      obtain ⟨W, hW⟩ : ∃ W, ((w.alloc (.cells #[.bool wa, .bool ae, .int .u64 al, .int .u64 ah, .slice (some ⟨b, o, none⟩) ls.length ca] 31)).alloc (.cells #[.bool false, .bool false, .int .u64 0, .int .u64 0, .slice none 0 0] 31)) = W := ⟨_, rfl⟩
      have a0 : W.cell? ⟨w.heap.size, 0, none⟩ = some (.bool wa) := by rw [← hW]; simp [go_sem]
      have a1 : W.cell? ⟨w.heap.size, 1, none⟩ = some (.bool ae) := by rw [← hW]; simp [go_sem]
      have a2 : W.cell? ⟨w.heap.size, 2, none⟩ = some (.int .u64 al) := by rw [← hW]; simp [go_sem]
      have a3 : W.cell? ⟨w.heap.size, 3, none⟩ = some (.int .u64 ah) := by rw [← hW]; simp [go_sem]
      have a4 : W.cell? ⟨w.heap.size, 4, none⟩ = some (.slice (some ⟨b, o, none⟩) ls.length ca) := by rw [← hW]; simp [go_sem]
      have r0 : W.cell? ⟨w.heap.size + 1, 0, none⟩ = some (.bool false) := by rw [← hW]; simp [go_sem]
      have r1 : W.cell? ⟨w.heap.size + 1, 1, none⟩ = some (.bool false) := by rw [← hW]; simp [go_sem]
      have r2 : W.cell? ⟨w.heap.size + 1, 2, none⟩ = some (.int .u64 0) := by rw [← hW]; simp [go_sem]
      have r3 : W.cell? ⟨w.heap.size + 1, 3, none⟩ = some (.int .u64 0) := by rw [← hW]; simp [go_sem]
      have r4 : W.cell? ⟨w.heap.size + 1, 4, none⟩ = some (.slice none 0 0) := by rw [← hW]; simp [go_sem]
      have bW : Below w.heap.size w W := by rw [← hW]; exact (sp_new (sp_new (Below.refl _ _) _) _)
      have zW : W.heap.size = w.heap.size + 2 := by rw [← hW]; simp
      have fa : ∀ j, W.frozen? ⟨w.heap.size, j, none⟩ = false := by intro j; rw [← hW]; simp [go_sem]
      have fz : ∀ j, W.frozen? ⟨w.heap.size + 1, j, none⟩ = false := by intro j; rw [← hW]; simp [go_sem]
      rw [hW]
      clear hW
      replace zW := Nat.le_of_eq zW.symm
      go_wp2_with fail
      exact bodyPost_ret (v := .agg #[.bool wa, .bool ae, .int .u64 al, .int .u64 ah, .slice (some ⟨b, o, none⟩) 40 ca]) (by simp [results, Tryz.results18, go_sem, r0, r1, r2, r3, r4]) rfl ⟨Or.inr ⟨by omega, b, o, ca, rfl, rfl⟩, (by (repeat (first | with_reducible assumption | with_reducible refine li_set1 ?_ (by omega) _ | with_reducible refine sp_new ?_ _)))⟩
set_option maxRecDepth 100000 in
set_option maxHeartbeats 6400000 in
theorem fewB (aw ae : Bool) (al ah : Int) (v : Value) (ls : List (Int × Bool × Int × Int)) (w : World) (hv : TAt w v ls) :
    Calls Tryz.prog 18 #[.agg #[.bool aw, .bool ae, .int .u64 al, .int .u64 ah, v]] w fun e w' => (∃ u, e = .returned (.agg #[.bool aw, .bool ae, .int .u64 al, .int .u64 ah, u]) ∧ ∀ W0, TAt W0 v ls → TAt W0 u (ls.take 40)) ∧ Below w.heap.size w w' := by
  by_cases h40 : ls.length ≤ 40
  · refine (fewA aw ae al ah v ls w hv).mono fun e w' q => ⟨?_, q.2⟩
    rcases q.1 with ⟨_, he⟩ | ⟨h, _⟩
    · exact ⟨v, he, fun W0 h0 => by rw [List.take_of_length_le h40]; exact h0⟩
    · omega
  · refine (fewA aw ae al ah v ls w hv).mono fun e w' q => ⟨?_, q.2⟩
    rcases q.1 with ⟨h, _⟩ | ⟨_, b, o, ca, hv2, he⟩
    · omega
    · refine ⟨_, he, fun W0 h0 => ?_⟩
      subst hv2
      rcases h0 with ⟨h1, _⟩ | ⟨b', o', cap, h1, hc, hcells⟩
      · cases h1
      · cases h1
        have e40 : (ls.take 40).length = 40 := by simp; omega
        refine Or.inr ⟨b, o, ca, by rw [e40], by omega, fun j t hj => hcells j t ?_⟩
        rw [List.getElem?_take] at hj
        split at hj
        · exact hj
        · cases hj
end Go.Proofs.YteafnkimcidkhaaGreat

namespace Go.Proofs.YteafnkimcidkhaaGreat
open Go.RowKit
set_option linter.unusedVariables false
set_option linter.unusedSimpArgs false
set_option maxRecDepth 100000 in
set_option maxHeartbeats 6400000 in
theorem lifo (r0 : Bool) (r1 r2 n : Int) (aw ae : Bool) (al ah : Int) (va : Value) (la : List (Int × Bool × Int × Int)) (bw be : Bool) (bl bh : Int) (vb : Value) (lb : List (Int × Bool × Int × Int)) (Xa Xb : List (Int × Bool × Int × Int)) (ow oe : Bool) (ol oh : Int) (vw ve : Bool) (vl vh : Int) (Xv : List (Int × Bool × Int × Int)) (qa qs : Bool)
    (kf : ∀ V, TAt V va la → Calls Tryz.prog 18 #[.agg #[.bool aw, .bool ae, .int .u64 al, .int .u64 ah, va]] V fun e w' => (∃ v, e = .returned (.agg #[.bool aw, .bool ae, .int .u64 al, .int .u64 ah, v]) ∧ ∀ W0, TAt W0 va la → TAt W0 v Xa) ∧ Below V.heap.size V w')
    (kg : ∀ V, TAt V vb lb → Calls Tryz.prog 18 #[.agg #[.bool bw, .bool be, .int .u64 bl, .int .u64 bh, vb]] V fun e w' => (∃ v, e = .returned (.agg #[.bool bw, .bool be, .int .u64 bl, .int .u64 bh, v]) ∧ ∀ W0, TAt W0 vb lb → TAt W0 v Xb) ∧ Below V.heap.size V w')
    (kl : ∀ V, Calls Tryz.prog 17 #[] V fun e w' => e = .returned (.bool true) ∧ Below V.heap.size V w') (ko : ∀ V, Calls Tryz.prog 20 #[.agg #[.bool r0, .int .u64 r1, .int .u64 r2]] V fun e w' => e = .returned (.agg #[.bool ow, .bool oe, .int .u64 ol, .int .u64 oh, .slice none 0 0]) ∧ Below V.heap.size V w') (kp : ∀ V, Calls Tryz.prog 21 #[.agg #[.bool r0, .int .u64 r1, .int .u64 r2]] V fun e w' => e = .returned (.agg #[.bool ow, .bool oe, .int .u64 ol, .int .u64 oh, .slice none 0 0]) ∧ Below V.heap.size V w') (ks : ∀ V, Calls Tryz.prog 19 #[.agg #[.bool ow, .bool oe, .int .u64 ol, .int .u64 oh, .slice none 0 0], .agg #[.bool ow, .bool oe, .int .u64 ol, .int .u64 oh, .slice none 0 0]] V fun e w' => e = .returned (.bool true) ∧ Below V.heap.size V w')
    (kv : ∀ V, Calls Tryz.prog 22 #[.int .i64 n] V fun e w' => (∃ p c, e = .returned (.agg #[.bool vw, .bool ve, .int .u64 vl, .int .u64 vh, .slice p Xv.length c]) ∧ TAt w' (.slice p Xv.length c) Xv) ∧ Below V.heap.size V w') (ku : ∀ V, Calls Tryz.prog 23 #[.int .i64 n] V fun e w' => (∃ p c, e = .returned (.agg #[.bool vw, .bool ve, .int .u64 vl, .int .u64 vh, .slice p Xv.length c]) ∧ TAt w' (.slice p Xv.length c) Xv) ∧ Below V.heap.size V w') (kS : ∀ V v u, TAt V v Xv → TAt V u Xv → Calls Tryz.prog 19 #[.agg #[.bool vw, .bool ve, .int .u64 vl, .int .u64 vh, v], .agg #[.bool vw, .bool ve, .int .u64 vl, .int .u64 vh, u]] V fun e w' => e = .returned (.bool true) ∧ Below V.heap.size V w')
    (kr : ∀ V v, TAt V v Xa → Calls Tryz.prog 24 #[.agg #[.bool aw, .bool ae, .int .u64 al, .int .u64 ah, v]] V fun e w' => e = .returned (.bool qa) ∧ Below V.heap.size V w') (kR : ∀ V v, TAt V v Xa → Calls Tryz.prog 26 #[.agg #[.bool aw, .bool ae, .int .u64 al, .int .u64 ah, v]] V fun e w' => (∃ p c, e = .returned (.agg #[.bool aw, .bool ae, .int .u64 al, .int .u64 ah, .slice p Xa.length c]) ∧ TAt w' (.slice p Xa.length c) Xa) ∧ Below V.heap.size V w') (kq : ∀ V v, TAt V v Xa → Calls Tryz.prog 25 #[.agg #[.bool aw, .bool ae, .int .u64 al, .int .u64 ah, v]] V fun e w' => e = .returned (.bool qa) ∧ Below V.heap.size V w')
    (kz : ∀ V v u, TAt V v Xa → TAt V u Xb → Calls Tryz.prog 27 #[.agg #[.bool aw, .bool ae, .int .u64 al, .int .u64 ah, v], .agg #[.bool bw, .bool be, .int .u64 bl, .int .u64 bh, u]] V fun e w' => e = .returned (.bool qs) ∧ Below V.heap.size V w') (kB : ∀ V v, TAt V v Xb → Calls Tryz.prog 26 #[.agg #[.bool bw, .bool be, .int .u64 bl, .int .u64 bh, v]] V fun e w' => (∃ p c, e = .returned (.agg #[.bool bw, .bool be, .int .u64 bl, .int .u64 bh, .slice p Xb.length c]) ∧ TAt w' (.slice p Xb.length c) Xb) ∧ Below V.heap.size V w') (kw : ∀ V v u, TAt V v Xa → TAt V u Xb → Calls Tryz.prog 28 #[.agg #[.bool aw, .bool ae, .int .u64 al, .int .u64 ah, v], .agg #[.bool bw, .bool be, .int .u64 bl, .int .u64 bh, u]] V fun e w' => e = .returned (.bool qs) ∧ Below V.heap.size V w')
    (w : World) (ta : TAt w va la) (tb : TAt w vb lb) :
    Calls Tryz.prog 4 #[.agg #[.bool r0, .int .u64 r1, .int .u64 r2], .int .i64 n, .agg #[.bool aw, .bool ae, .int .u64 al, .int .u64 ah, va, .bool bw, .bool be, .int .u64 bl, .int .u64 bh, vb]] w fun e w' => e = .returned (.bool true) ∧ Below w.heap.size w w' := by
  obtain ⟨pa, ca, rfl⟩ := ta.len
  obtain ⟨pb, cb, rfl⟩ := tb.len
  obtain ⟨na, hna⟩ : ∃ na, na = la.length := ⟨_, rfl⟩
  obtain ⟨nb, hnb⟩ : ∃ nb, nb = lb.length := ⟨_, rfl⟩
  rw [← hna] at ta kf ⊢
  rw [← hnb] at tb kg ⊢
  clear hna hnb
  go_enter Tryz.func4, Tryz.ntmps4
  go_upto_region 1 with fail
  obtain ⟨W, hW⟩ : ∃ W, (w.alloc (.cells #[.bool r0, .int .u64 r1, .int .u64 r2] 24)).alloc (.cells #[.bool aw, .bool ae, .int .u64 al, .int .u64 ah, .slice pa na ca, .bool bw, .bool be, .int .u64 bl, .int .u64 bh, .slice pb nb cb] 32) = W := ⟨_, rfl⟩
  have r0_ : W.cell? ⟨w.heap.size, 0, none⟩ = some (.bool r0) := by rw [← hW]; simp [go_sem]
  have r1_ : W.cell? ⟨w.heap.size, 1, none⟩ = some (.int .u64 r1) := by rw [← hW]; simp [go_sem]
  have r2_ : W.cell? ⟨w.heap.size, 2, none⟩ = some (.int .u64 r2) := by rw [← hW]; simp [go_sem]
  have a0 : W.cell? ⟨w.heap.size + 1, 0, none⟩ = some (.bool aw) := by rw [← hW]; simp [go_sem]
  have a1 : W.cell? ⟨w.heap.size + 1, 1, none⟩ = some (.bool ae) := by rw [← hW]; simp [go_sem]
  have a2 : W.cell? ⟨w.heap.size + 1, 2, none⟩ = some (.int .u64 al) := by rw [← hW]; simp [go_sem]
  have a3 : W.cell? ⟨w.heap.size + 1, 3, none⟩ = some (.int .u64 ah) := by rw [← hW]; simp [go_sem]
  have a4 : W.cell? ⟨w.heap.size + 1, 4, none⟩ = some (.slice pa na ca) := by rw [← hW]; simp [go_sem]
  have b0 : W.cell? ⟨w.heap.size + 1, 5, none⟩ = some (.bool bw) := by rw [← hW]; simp [go_sem]
  have b1 : W.cell? ⟨w.heap.size + 1, 6, none⟩ = some (.bool be) := by rw [← hW]; simp [go_sem]
  have b2 : W.cell? ⟨w.heap.size + 1, 7, none⟩ = some (.int .u64 bl) := by rw [← hW]; simp [go_sem]
  have b3 : W.cell? ⟨w.heap.size + 1, 8, none⟩ = some (.int .u64 bh) := by rw [← hW]; simp [go_sem]
  have b4 : W.cell? ⟨w.heap.size + 1, 9, none⟩ = some (.slice pb nb cb) := by rw [← hW]; simp [go_sem]
  have bW : Below w.heap.size w W := by rw [← hW]; exact sp_new (sp_new (Below.refl _ _) _) _
  replace ta := ta.on bW
  replace tb := tb.on bW
  rw [hW]
  clear hW
  have cc : Below W.heap.size W W.drew := (Below.refl _ _).drew
  go_cut [7, 8] from 9 to 14 (fun s u X => ∃ (W1 : World) (b5 b6 : Nat) (p5 : Option Addr) (c5 : Nat) (p6 : Option Addr) (c6 : Nat), W1 = X ∧ s = .pointer (some ⟨b5, 0, none⟩) ∧ u = .pointer (some ⟨b6, 0, none⟩) ∧ X.heap[b5]? = some (.cells #[.bool aw, .bool ae, .int .u64 al, .int .u64 ah, .slice p5 Xa.length c5] 31) ∧ X.heap[b6]? = some (.cells #[.bool bw, .bool be, .int .u64 bl, .int .u64 bh, .slice p6 Xb.length c6] 31) ∧ TAt X (.slice p5 Xa.length c5) Xa ∧ TAt X (.slice p6 Xb.length c6) Xb ∧ Below W.heap.size W X)
  case first =>
   have hall : ∀ X9, Below W.heap.size W X9 → (X9.cell? ⟨w.heap.size + 1, 0, none⟩ = some (.bool aw) ∧ X9.cell? ⟨w.heap.size + 1, 1, none⟩ = some (.bool ae) ∧ X9.cell? ⟨w.heap.size + 1, 2, none⟩ = some (.int .u64 al) ∧ X9.cell? ⟨w.heap.size + 1, 3, none⟩ = some (.int .u64 ah) ∧ X9.cell? ⟨w.heap.size + 1, 4, none⟩ = some (.slice pa na ca) ∧ X9.cell? ⟨w.heap.size + 1, 5, none⟩ = some (.bool bw) ∧ X9.cell? ⟨w.heap.size + 1, 6, none⟩ = some (.bool be) ∧ X9.cell? ⟨w.heap.size + 1, 7, none⟩ = some (.int .u64 bl) ∧ X9.cell? ⟨w.heap.size + 1, 8, none⟩ = some (.int .u64 bh) ∧ X9.cell? ⟨w.heap.size + 1, 9, none⟩ = some (.slice pb nb cb)) := fun X9 cc => ⟨sO cc a0, sO cc a1, sO cc a2, sO cc a3, sO cc a4, sO cc b0, sO cc b1, sO cc b2, sO cc b3, sO cc b4⟩
   refine wp_region_held_drew (S := (fun w' => w'.cell? ⟨w.heap.size + 1, 0, none⟩ = some (.bool aw) ∧ w'.cell? ⟨w.heap.size + 1, 1, none⟩ = some (.bool ae) ∧ w'.cell? ⟨w.heap.size + 1, 2, none⟩ = some (.int .u64 al) ∧ w'.cell? ⟨w.heap.size + 1, 3, none⟩ = some (.int .u64 ah) ∧ w'.cell? ⟨w.heap.size + 1, 4, none⟩ = some (.slice pa na ca) ∧ w'.cell? ⟨w.heap.size + 1, 5, none⟩ = some (.bool bw) ∧ w'.cell? ⟨w.heap.size + 1, 6, none⟩ = some (.bool be) ∧ w'.cell? ⟨w.heap.size + 1, 7, none⟩ = some (.int .u64 bl) ∧ w'.cell? ⟨w.heap.size + 1, 8, none⟩ = some (.int .u64 bh) ∧ w'.cell? ⟨w.heap.size + 1, 9, none⟩ = some (.slice pb nb cb))) (by kernel_rfl) (hall _ cc) (fun hH => ?_)
   refine wpAnyH_take (i := 0) (oi := _) (v := .pointer (some ⟨w.heap.size + 1, 0, none⟩)) rfl (by kernel_rfl) (by kernel_rfl) (by kernel_rfl) (fun _ _ _ h => h) (Or.inl ⟨by rfl, fun w' hSw => by obtain ⟨za0, za1, za2, za3, za4, zb0, zb1, zb2, zb3, zb4⟩ := hSw; go_simp⟩) hH ?_
   simp only [Act.put, List.getElem_toArray, List.getElem_cons_zero, List.getElem_cons_succ, List.setIfInBounds_toArray, List.set_cons_zero, List.set_cons_succ]
   refine wpAnyH_take (i := 1) (oi := _) (v := .agg #[.bool aw, .bool ae, .int .u64 al, .int .u64 ah, .slice pa na ca]) rfl (by kernel_rfl) (by kernel_rfl) (by kernel_rfl) (fun _ _ _ h => h) (Or.inl ⟨by rfl, fun w' hSw => by obtain ⟨za0, za1, za2, za3, za4, zb0, zb1, zb2, zb3, zb4⟩ := hSw; go_simp⟩) hH ?_
   simp only [Act.put, List.getElem_toArray, List.getElem_cons_zero, List.getElem_cons_succ, List.setIfInBounds_toArray, List.set_cons_zero, List.set_cons_succ]
   refine wpAnyH_take (i := 3) (oi := _) (v := .pointer (some ⟨w.heap.size + 1, 5, none⟩)) rfl (by kernel_rfl) (by kernel_rfl) (by kernel_rfl) (fun _ _ _ h => h) (Or.inl ⟨by rfl, fun w' hSw => by obtain ⟨za0, za1, za2, za3, za4, zb0, zb1, zb2, zb3, zb4⟩ := hSw; go_simp⟩) hH ?_
   simp only [Act.put, List.getElem_toArray, List.getElem_cons_zero, List.getElem_cons_succ, List.setIfInBounds_toArray, List.set_cons_zero, List.set_cons_succ]
   refine wpAnyH_take (i := 4) (oi := _) (v := .agg #[.bool bw, .bool be, .int .u64 bl, .int .u64 bh, .slice pb nb cb]) rfl (by kernel_rfl) (by kernel_rfl) (by kernel_rfl) (fun _ _ _ h => h) (Or.inl ⟨by rfl, fun w' hSw => by obtain ⟨za0, za1, za2, za3, za4, zb0, zb1, zb2, zb3, zb4⟩ := hSw; go_simp⟩) hH ?_
   simp only [Act.put, List.getElem_toArray, List.getElem_cons_zero, List.getElem_cons_succ, List.setIfInBounds_toArray, List.set_cons_zero, List.set_cons_succ]
   generalize hY : W.drew = Y0 at *
   clear hY
   refine wpAnyH_ready (rs := [2, 6, 7]) (by kernel_rfl) (by simp) (AllReadyH.cons (o := _) rfl (fun K hK => ?_) (AllReadyH.cons (o := _) rfl (fun K hK => ?_) (AllReadyH.cons (o := _) rfl (fun K hK => ?_) AllReadyH.nil)))
   ·skip
    go_simp
    refine (kf _ (TAt.on ta cc)).mono ?_
    rintro e Y1 ⟨⟨v, rfl, h5⟩, g⟩
    have h50 := h5 _ ta
    obtain ⟨p5, c5, rfl⟩ := h50.len
    clear h50
    replace cc := sp_call cc g
    clear g
    go_wp2_with fail
    refine hK.out _ _ (hall _ cc) (fun hH => ?_)
    clear hK K
    try simp only [Act.put, List.getElem_toArray, List.getElem_cons_zero, List.getElem_cons_succ, List.setIfInBounds_toArray, List.set_cons_zero, List.set_cons_succ]
    refine wpAnyH_ready (rs := [5, 6, 7]) (by kernel_rfl) (by simp) (AllReadyH.cons (o := _) rfl (fun K hK => ?_) (AllReadyH.cons (o := _) rfl (fun K hK => ?_) (AllReadyH.cons (o := _) rfl (fun K hK => ?_) AllReadyH.nil)))
    ·skip
     go_simp
     refine (kg _ (TAt.on tb cc)).mono ?_
     rintro e Y2 ⟨⟨v, rfl, h6⟩, g⟩
     have h60 := h6 _ tb
     obtain ⟨p6, c6, rfl⟩ := h60.len
     clear h60
     replace cc := sp_call cc g
     clear g
     go_wp2_with fail
     refine hK.out _ _ (hall _ cc) (fun hH => ?_)
     clear hK K
     try simp only [Act.put, List.getElem_toArray, List.getElem_cons_zero, List.getElem_cons_succ, List.setIfInBounds_toArray, List.set_cons_zero, List.set_cons_succ]
     refine wpAnyH_ready (rs := [6, 7]) (by kernel_rfl) (by simp) (AllReadyH.cons (o := _) rfl (fun K hK => ?_) (AllReadyH.cons (o := _) rfl (fun K hK => ?_) AllReadyH.nil))
     ·skip
      go_simp
      have zz0 := cc.size
      have q0 := World.alloc_heap_new Y2 (.cells #[.bool false, .bool false, .int .u64 0, .int .u64 0, .slice none 0 0] 31)
      replace cc := sp_new cc (.cells #[.bool false, .bool false, .int .u64 0, .int .u64 0, .slice none 0 0] 31)
      generalize hY : Y2.alloc (.cells #[.bool false, .bool false, .int .u64 0, .int .u64 0, .slice none 0 0] 31) = Y3 at *
      clear hY
      refine hK.out _ _ (hall _ cc) (fun hH => ?_)
      clear hK K
      try simp only [Act.put, List.getElem_toArray, List.getElem_cons_zero, List.getElem_cons_succ, List.setIfInBounds_toArray, List.set_cons_zero, List.set_cons_succ]
      refine wpAnyH_ready (rs := [7]) (by kernel_rfl) (by simp) (AllReadyH.cons (o := _) rfl (fun K hK => ?_) AllReadyH.nil)
      go_simp
      have zz1 := cc.size
      have ne0_1 : Y2.heap.size ≠ Y3.heap.size := Nat.ne_of_lt (lw_lt q0)
      replace q0 := lw_old q0 (.cells #[.bool false, .bool false, .int .u64 0, .int .u64 0, .slice none 0 0] 31)
      have q1 := World.alloc_heap_new Y3 (.cells #[.bool false, .bool false, .int .u64 0, .int .u64 0, .slice none 0 0] 31)
      replace cc := sp_new cc (.cells #[.bool false, .bool false, .int .u64 0, .int .u64 0, .slice none 0 0] 31)
      generalize hY : Y3.alloc (.cells #[.bool false, .bool false, .int .u64 0, .int .u64 0, .slice none 0 0] 31) = Y4 at *
      clear hY
      refine hK.out _ _ (hall _ cc) (fun hH => ?_)
      clear hK K
      try simp only [Act.put, List.getElem_toArray, List.getElem_cons_zero, List.getElem_cons_succ, List.setIfInBounds_toArray, List.set_cons_zero, List.set_cons_succ]
      refine wpAnyH_ready (rs := [8]) (by kernel_rfl) (by simp) (AllReadyH.cons (o := _) rfl (fun K hK => ?_) AllReadyH.nil)
      obtain ⟨q_0, q_1, q_2, q_3, q_4, qf⟩ := lw_cells5 q0
      go_simp
      clear q_0 q_1 q_2 q_3 q_4 qf
      replace q1 := lw_far5 (b := Y2.heap.size) q1 (.bool aw) (.bool ae) (.int .u64 al) (.int .u64 ah) (.slice p5 Xa.length c5) (by first | assumption | exact Ne.symm (by assumption))
      replace q0 := lw_set5 q0 (.bool aw) (.bool ae) (.int .u64 al) (.int .u64 ah) (.slice p5 Xa.length c5)
      replace cc := lw_sp5 (b := Y2.heap.size) cc zz0 (.bool aw) (.bool ae) (.int .u64 al) (.int .u64 ah) (.slice p5 Xa.length c5)
      rw [show (((((Y4.setCell ⟨Y2.heap.size, 0, none⟩ (.bool aw)).setCell ⟨Y2.heap.size, 1, none⟩ (.bool ae)).setCell ⟨Y2.heap.size, 2, none⟩ (.int .u64 al)).setCell ⟨Y2.heap.size, 3, none⟩ (.int .u64 ah)).setCell ⟨Y2.heap.size, 4, none⟩ (.slice p5 Xa.length c5)) = set5 Y4 Y2.heap.size (.bool aw) (.bool ae) (.int .u64 al) (.int .u64 ah) (.slice p5 Xa.length c5) from rfl]
      generalize hY : set5 Y4 Y2.heap.size (.bool aw) (.bool ae) (.int .u64 al) (.int .u64 ah) (.slice p5 Xa.length c5) = Y5 at *
      clear hY
      refine hK.out _ _ (hall _ cc) (fun hH => ?_)
      clear hK K
      try simp only [Act.put, List.getElem_toArray, List.getElem_cons_zero, List.getElem_cons_succ, List.setIfInBounds_toArray, List.set_cons_zero, List.set_cons_succ]
      refine wpAnyH_ready (rs := [9]) (by kernel_rfl) (by simp) (AllReadyH.cons (o := _) rfl (fun K hK => ?_) AllReadyH.nil)
      obtain ⟨q_0, q_1, q_2, q_3, q_4, qf⟩ := lw_cells5 q1
      go_simp
      clear q_0 q_1 q_2 q_3 q_4 qf
      replace q0 := lw_far5 (b := Y3.heap.size) q0 (.bool bw) (.bool be) (.int .u64 bl) (.int .u64 bh) (.slice p6 Xb.length c6) (by first | assumption | exact Ne.symm (by assumption))
      replace q1 := lw_set5 q1 (.bool bw) (.bool be) (.int .u64 bl) (.int .u64 bh) (.slice p6 Xb.length c6)
      replace cc := lw_sp5 (b := Y3.heap.size) cc zz1 (.bool bw) (.bool be) (.int .u64 bl) (.int .u64 bh) (.slice p6 Xb.length c6)
      rw [show (((((Y5.setCell ⟨Y3.heap.size, 0, none⟩ (.bool bw)).setCell ⟨Y3.heap.size, 1, none⟩ (.bool be)).setCell ⟨Y3.heap.size, 2, none⟩ (.int .u64 bl)).setCell ⟨Y3.heap.size, 3, none⟩ (.int .u64 bh)).setCell ⟨Y3.heap.size, 4, none⟩ (.slice p6 Xb.length c6)) = set5 Y5 Y3.heap.size (.bool bw) (.bool be) (.int .u64 bl) (.int .u64 bh) (.slice p6 Xb.length c6) from rfl]
      generalize hY : set5 Y5 Y3.heap.size (.bool bw) (.bool be) (.int .u64 bl) (.int .u64 bh) (.slice p6 Xb.length c6) = Y6 at *
      clear hY
      refine hK.out _ _ (hall _ cc) (fun hH => ?_)
      clear hK K
      try simp only [Act.put, List.getElem_toArray, List.getElem_cons_zero, List.getElem_cons_succ, List.setIfInBounds_toArray, List.set_cons_zero, List.set_cons_succ]
      refine wpAnyH_done (by kernel_rfl) ?_ _
      go_wp2_with fail
      go_meet
      exact ⟨_, Y2.heap.size, Y3.heap.size, p5, c5, p6, c6, rfl, rfl, rfl, q0, q1, h5 _ (ta.on cc), h6 _ (tb.on cc), cc⟩
     ·skip
      go_simp
      have zz1 := cc.size
      have q1 := World.alloc_heap_new Y2 (.cells #[.bool false, .bool false, .int .u64 0, .int .u64 0, .slice none 0 0] 31)
      replace cc := sp_new cc (.cells #[.bool false, .bool false, .int .u64 0, .int .u64 0, .slice none 0 0] 31)
      generalize hY : Y2.alloc (.cells #[.bool false, .bool false, .int .u64 0, .int .u64 0, .slice none 0 0] 31) = Y7 at *
      clear hY
      refine hK.out _ _ (hall _ cc) (fun hH => ?_)
      clear hK K
      try simp only [Act.put, List.getElem_toArray, List.getElem_cons_zero, List.getElem_cons_succ, List.setIfInBounds_toArray, List.set_cons_zero, List.set_cons_succ]
      refine wpAnyH_ready (rs := [6]) (by kernel_rfl) (by simp) (AllReadyH.cons (o := _) rfl (fun K hK => ?_) AllReadyH.nil)
      go_simp
      have zz0 := cc.size
      have ne0_1 : Y2.heap.size ≠ Y7.heap.size := Nat.ne_of_lt (lw_lt q1)
      replace q1 := lw_old q1 (.cells #[.bool false, .bool false, .int .u64 0, .int .u64 0, .slice none 0 0] 31)
      have q0 := World.alloc_heap_new Y7 (.cells #[.bool false, .bool false, .int .u64 0, .int .u64 0, .slice none 0 0] 31)
      replace cc := sp_new cc (.cells #[.bool false, .bool false, .int .u64 0, .int .u64 0, .slice none 0 0] 31)
      generalize hY : Y7.alloc (.cells #[.bool false, .bool false, .int .u64 0, .int .u64 0, .slice none 0 0] 31) = Y8 at *
      clear hY
      refine hK.out _ _ (hall _ cc) (fun hH => ?_)
      clear hK K
      try simp only [Act.put, List.getElem_toArray, List.getElem_cons_zero, List.getElem_cons_succ, List.setIfInBounds_toArray, List.set_cons_zero, List.set_cons_succ]
      refine wpAnyH_ready (rs := [8]) (by kernel_rfl) (by simp) (AllReadyH.cons (o := _) rfl (fun K hK => ?_) AllReadyH.nil)
      obtain ⟨q_0, q_1, q_2, q_3, q_4, qf⟩ := lw_cells5 q0
      go_simp
      clear q_0 q_1 q_2 q_3 q_4 qf
      replace q1 := lw_far5 (b := Y7.heap.size) q1 (.bool aw) (.bool ae) (.int .u64 al) (.int .u64 ah) (.slice p5 Xa.length c5) (by first | assumption | exact Ne.symm (by assumption))
      replace q0 := lw_set5 q0 (.bool aw) (.bool ae) (.int .u64 al) (.int .u64 ah) (.slice p5 Xa.length c5)
      replace cc := lw_sp5 (b := Y7.heap.size) cc zz0 (.bool aw) (.bool ae) (.int .u64 al) (.int .u64 ah) (.slice p5 Xa.length c5)
      rw [show (((((Y8.setCell ⟨Y7.heap.size, 0, none⟩ (.bool aw)).setCell ⟨Y7.heap.size, 1, none⟩ (.bool ae)).setCell ⟨Y7.heap.size, 2, none⟩ (.int .u64 al)).setCell ⟨Y7.heap.size, 3, none⟩ (.int .u64 ah)).setCell ⟨Y7.heap.size, 4, none⟩ (.slice p5 Xa.length c5)) = set5 Y8 Y7.heap.size (.bool aw) (.bool ae) (.int .u64 al) (.int .u64 ah) (.slice p5 Xa.length c5) from rfl]
      generalize hY : set5 Y8 Y7.heap.size (.bool aw) (.bool ae) (.int .u64 al) (.int .u64 ah) (.slice p5 Xa.length c5) = Y9 at *
      clear hY
      refine hK.out _ _ (hall _ cc) (fun hH => ?_)
      clear hK K
      try simp only [Act.put, List.getElem_toArray, List.getElem_cons_zero, List.getElem_cons_succ, List.setIfInBounds_toArray, List.set_cons_zero, List.set_cons_succ]
      refine wpAnyH_ready (rs := [9]) (by kernel_rfl) (by simp) (AllReadyH.cons (o := _) rfl (fun K hK => ?_) AllReadyH.nil)
      obtain ⟨q_0, q_1, q_2, q_3, q_4, qf⟩ := lw_cells5 q1
      go_simp
      clear q_0 q_1 q_2 q_3 q_4 qf
      replace q0 := lw_far5 (b := Y2.heap.size) q0 (.bool bw) (.bool be) (.int .u64 bl) (.int .u64 bh) (.slice p6 Xb.length c6) (by first | assumption | exact Ne.symm (by assumption))
      replace q1 := lw_set5 q1 (.bool bw) (.bool be) (.int .u64 bl) (.int .u64 bh) (.slice p6 Xb.length c6)
      replace cc := lw_sp5 (b := Y2.heap.size) cc zz1 (.bool bw) (.bool be) (.int .u64 bl) (.int .u64 bh) (.slice p6 Xb.length c6)
      rw [show (((((Y9.setCell ⟨Y2.heap.size, 0, none⟩ (.bool bw)).setCell ⟨Y2.heap.size, 1, none⟩ (.bool be)).setCell ⟨Y2.heap.size, 2, none⟩ (.int .u64 bl)).setCell ⟨Y2.heap.size, 3, none⟩ (.int .u64 bh)).setCell ⟨Y2.heap.size, 4, none⟩ (.slice p6 Xb.length c6)) = set5 Y9 Y2.heap.size (.bool bw) (.bool be) (.int .u64 bl) (.int .u64 bh) (.slice p6 Xb.length c6) from rfl]
      generalize hY : set5 Y9 Y2.heap.size (.bool bw) (.bool be) (.int .u64 bl) (.int .u64 bh) (.slice p6 Xb.length c6) = Y10 at *
      clear hY
      refine hK.out _ _ (hall _ cc) (fun hH => ?_)
      clear hK K
      try simp only [Act.put, List.getElem_toArray, List.getElem_cons_zero, List.getElem_cons_succ, List.setIfInBounds_toArray, List.set_cons_zero, List.set_cons_succ]
      refine wpAnyH_done (by kernel_rfl) ?_ _
      go_wp2_with fail
      go_meet
      exact ⟨_, Y7.heap.size, Y2.heap.size, p5, c5, p6, c6, rfl, rfl, rfl, q0, q1, h5 _ (ta.on cc), h6 _ (tb.on cc), cc⟩
    ·skip
     go_simp
     have zz0 := cc.size
     have q0 := World.alloc_heap_new Y1 (.cells #[.bool false, .bool false, .int .u64 0, .int .u64 0, .slice none 0 0] 31)
     replace cc := sp_new cc (.cells #[.bool false, .bool false, .int .u64 0, .int .u64 0, .slice none 0 0] 31)
     generalize hY : Y1.alloc (.cells #[.bool false, .bool false, .int .u64 0, .int .u64 0, .slice none 0 0] 31) = Y11 at *
     clear hY
     refine hK.out _ _ (hall _ cc) (fun hH => ?_)
     clear hK K
     try simp only [Act.put, List.getElem_toArray, List.getElem_cons_zero, List.getElem_cons_succ, List.setIfInBounds_toArray, List.set_cons_zero, List.set_cons_succ]
     refine wpAnyH_ready (rs := [5, 7]) (by kernel_rfl) (by simp) (AllReadyH.cons (o := _) rfl (fun K hK => ?_) (AllReadyH.cons (o := _) rfl (fun K hK => ?_) AllReadyH.nil))
     ·skip
      go_simp
      refine (kg _ (TAt.on tb cc)).mono ?_
      rintro e Y12 ⟨⟨v, rfl, h6⟩, g⟩
      have h60 := h6 _ tb
      obtain ⟨p6, c6, rfl⟩ := h60.len
      clear h60
      replace cc := sp_call cc g
      replace q0 := lw_on g q0
      clear g
      go_wp2_with fail
      refine hK.out _ _ (hall _ cc) (fun hH => ?_)
      clear hK K
      try simp only [Act.put, List.getElem_toArray, List.getElem_cons_zero, List.getElem_cons_succ, List.setIfInBounds_toArray, List.set_cons_zero, List.set_cons_succ]
      refine wpAnyH_ready (rs := [7]) (by kernel_rfl) (by simp) (AllReadyH.cons (o := _) rfl (fun K hK => ?_) AllReadyH.nil)
      go_simp
      have zz1 := cc.size
      have ne0_1 : Y1.heap.size ≠ Y12.heap.size := Nat.ne_of_lt (lw_lt q0)
      replace q0 := lw_old q0 (.cells #[.bool false, .bool false, .int .u64 0, .int .u64 0, .slice none 0 0] 31)
      have q1 := World.alloc_heap_new Y12 (.cells #[.bool false, .bool false, .int .u64 0, .int .u64 0, .slice none 0 0] 31)
      replace cc := sp_new cc (.cells #[.bool false, .bool false, .int .u64 0, .int .u64 0, .slice none 0 0] 31)
      generalize hY : Y12.alloc (.cells #[.bool false, .bool false, .int .u64 0, .int .u64 0, .slice none 0 0] 31) = Y13 at *
      clear hY
      refine hK.out _ _ (hall _ cc) (fun hH => ?_)
      clear hK K
      try simp only [Act.put, List.getElem_toArray, List.getElem_cons_zero, List.getElem_cons_succ, List.setIfInBounds_toArray, List.set_cons_zero, List.set_cons_succ]
      refine wpAnyH_ready (rs := [8]) (by kernel_rfl) (by simp) (AllReadyH.cons (o := _) rfl (fun K hK => ?_) AllReadyH.nil)
      obtain ⟨q_0, q_1, q_2, q_3, q_4, qf⟩ := lw_cells5 q0
      go_simp
      clear q_0 q_1 q_2 q_3 q_4 qf
      replace q1 := lw_far5 (b := Y1.heap.size) q1 (.bool aw) (.bool ae) (.int .u64 al) (.int .u64 ah) (.slice p5 Xa.length c5) (by first | assumption | exact Ne.symm (by assumption))
      replace q0 := lw_set5 q0 (.bool aw) (.bool ae) (.int .u64 al) (.int .u64 ah) (.slice p5 Xa.length c5)
      replace cc := lw_sp5 (b := Y1.heap.size) cc zz0 (.bool aw) (.bool ae) (.int .u64 al) (.int .u64 ah) (.slice p5 Xa.length c5)
      rw [show (((((Y13.setCell ⟨Y1.heap.size, 0, none⟩ (.bool aw)).setCell ⟨Y1.heap.size, 1, none⟩ (.bool ae)).setCell ⟨Y1.heap.size, 2, none⟩ (.int .u64 al)).setCell ⟨Y1.heap.size, 3, none⟩ (.int .u64 ah)).setCell ⟨Y1.heap.size, 4, none⟩ (.slice p5 Xa.length c5)) = set5 Y13 Y1.heap.size (.bool aw) (.bool ae) (.int .u64 al) (.int .u64 ah) (.slice p5 Xa.length c5) from rfl]
      generalize hY : set5 Y13 Y1.heap.size (.bool aw) (.bool ae) (.int .u64 al) (.int .u64 ah) (.slice p5 Xa.length c5) = Y14 at *
      clear hY
      refine hK.out _ _ (hall _ cc) (fun hH => ?_)
      clear hK K
      try simp only [Act.put, List.getElem_toArray, List.getElem_cons_zero, List.getElem_cons_succ, List.setIfInBounds_toArray, List.set_cons_zero, List.set_cons_succ]
      refine wpAnyH_ready (rs := [9]) (by kernel_rfl) (by simp) (AllReadyH.cons (o := _) rfl (fun K hK => ?_) AllReadyH.nil)
      obtain ⟨q_0, q_1, q_2, q_3, q_4, qf⟩ := lw_cells5 q1
      go_simp
      clear q_0 q_1 q_2 q_3 q_4 qf
      replace q0 := lw_far5 (b := Y12.heap.size) q0 (.bool bw) (.bool be) (.int .u64 bl) (.int .u64 bh) (.slice p6 Xb.length c6) (by first | assumption | exact Ne.symm (by assumption))
      replace q1 := lw_set5 q1 (.bool bw) (.bool be) (.int .u64 bl) (.int .u64 bh) (.slice p6 Xb.length c6)
      replace cc := lw_sp5 (b := Y12.heap.size) cc zz1 (.bool bw) (.bool be) (.int .u64 bl) (.int .u64 bh) (.slice p6 Xb.length c6)
      rw [show (((((Y14.setCell ⟨Y12.heap.size, 0, none⟩ (.bool bw)).setCell ⟨Y12.heap.size, 1, none⟩ (.bool be)).setCell ⟨Y12.heap.size, 2, none⟩ (.int .u64 bl)).setCell ⟨Y12.heap.size, 3, none⟩ (.int .u64 bh)).setCell ⟨Y12.heap.size, 4, none⟩ (.slice p6 Xb.length c6)) = set5 Y14 Y12.heap.size (.bool bw) (.bool be) (.int .u64 bl) (.int .u64 bh) (.slice p6 Xb.length c6) from rfl]
      generalize hY : set5 Y14 Y12.heap.size (.bool bw) (.bool be) (.int .u64 bl) (.int .u64 bh) (.slice p6 Xb.length c6) = Y15 at *
      clear hY
      refine hK.out _ _ (hall _ cc) (fun hH => ?_)
      clear hK K
      try simp only [Act.put, List.getElem_toArray, List.getElem_cons_zero, List.getElem_cons_succ, List.setIfInBounds_toArray, List.set_cons_zero, List.set_cons_succ]
      refine wpAnyH_done (by kernel_rfl) ?_ _
      go_wp2_with fail
      go_meet
      exact ⟨_, Y1.heap.size, Y12.heap.size, p5, c5, p6, c6, rfl, rfl, rfl, q0, q1, h5 _ (ta.on cc), h6 _ (tb.on cc), cc⟩
     ·skip
      go_simp
      have zz1 := cc.size
      have ne0_1 : Y1.heap.size ≠ Y11.heap.size := Nat.ne_of_lt (lw_lt q0)
      replace q0 := lw_old q0 (.cells #[.bool false, .bool false, .int .u64 0, .int .u64 0, .slice none 0 0] 31)
      have q1 := World.alloc_heap_new Y11 (.cells #[.bool false, .bool false, .int .u64 0, .int .u64 0, .slice none 0 0] 31)
      replace cc := sp_new cc (.cells #[.bool false, .bool false, .int .u64 0, .int .u64 0, .slice none 0 0] 31)
      generalize hY : Y11.alloc (.cells #[.bool false, .bool false, .int .u64 0, .int .u64 0, .slice none 0 0] 31) = Y16 at *
      clear hY
      refine hK.out _ _ (hall _ cc) (fun hH => ?_)
      clear hK K
      try simp only [Act.put, List.getElem_toArray, List.getElem_cons_zero, List.getElem_cons_succ, List.setIfInBounds_toArray, List.set_cons_zero, List.set_cons_succ]
      refine wpAnyH_ready (rs := [5]) (by kernel_rfl) (by simp) (AllReadyH.cons (o := _) rfl (fun K hK => ?_) AllReadyH.nil)
      go_simp
      refine (kg _ (TAt.on tb cc)).mono ?_
      rintro e Y17 ⟨⟨v, rfl, h6⟩, g⟩
      have h60 := h6 _ tb
      obtain ⟨p6, c6, rfl⟩ := h60.len
      clear h60
      replace cc := sp_call cc g
      replace q0 := lw_on g q0
      replace q1 := lw_on g q1
      clear g
      go_wp2_with fail
      refine hK.out _ _ (hall _ cc) (fun hH => ?_)
      clear hK K
      try simp only [Act.put, List.getElem_toArray, List.getElem_cons_zero, List.getElem_cons_succ, List.setIfInBounds_toArray, List.set_cons_zero, List.set_cons_succ]
      refine wpAnyH_ready (rs := [8]) (by kernel_rfl) (by simp) (AllReadyH.cons (o := _) rfl (fun K hK => ?_) AllReadyH.nil)
      obtain ⟨q_0, q_1, q_2, q_3, q_4, qf⟩ := lw_cells5 q0
      go_simp
      clear q_0 q_1 q_2 q_3 q_4 qf
      replace q1 := lw_far5 (b := Y1.heap.size) q1 (.bool aw) (.bool ae) (.int .u64 al) (.int .u64 ah) (.slice p5 Xa.length c5) (by first | assumption | exact Ne.symm (by assumption))
      replace q0 := lw_set5 q0 (.bool aw) (.bool ae) (.int .u64 al) (.int .u64 ah) (.slice p5 Xa.length c5)
      replace cc := lw_sp5 (b := Y1.heap.size) cc zz0 (.bool aw) (.bool ae) (.int .u64 al) (.int .u64 ah) (.slice p5 Xa.length c5)
      rw [show (((((Y17.setCell ⟨Y1.heap.size, 0, none⟩ (.bool aw)).setCell ⟨Y1.heap.size, 1, none⟩ (.bool ae)).setCell ⟨Y1.heap.size, 2, none⟩ (.int .u64 al)).setCell ⟨Y1.heap.size, 3, none⟩ (.int .u64 ah)).setCell ⟨Y1.heap.size, 4, none⟩ (.slice p5 Xa.length c5)) = set5 Y17 Y1.heap.size (.bool aw) (.bool ae) (.int .u64 al) (.int .u64 ah) (.slice p5 Xa.length c5) from rfl]
      generalize hY : set5 Y17 Y1.heap.size (.bool aw) (.bool ae) (.int .u64 al) (.int .u64 ah) (.slice p5 Xa.length c5) = Y18 at *
      clear hY
      refine hK.out _ _ (hall _ cc) (fun hH => ?_)
      clear hK K
      try simp only [Act.put, List.getElem_toArray, List.getElem_cons_zero, List.getElem_cons_succ, List.setIfInBounds_toArray, List.set_cons_zero, List.set_cons_succ]
      refine wpAnyH_ready (rs := [9]) (by kernel_rfl) (by simp) (AllReadyH.cons (o := _) rfl (fun K hK => ?_) AllReadyH.nil)
      obtain ⟨q_0, q_1, q_2, q_3, q_4, qf⟩ := lw_cells5 q1
      go_simp
      clear q_0 q_1 q_2 q_3 q_4 qf
      replace q0 := lw_far5 (b := Y11.heap.size) q0 (.bool bw) (.bool be) (.int .u64 bl) (.int .u64 bh) (.slice p6 Xb.length c6) (by first | assumption | exact Ne.symm (by assumption))
      replace q1 := lw_set5 q1 (.bool bw) (.bool be) (.int .u64 bl) (.int .u64 bh) (.slice p6 Xb.length c6)
      replace cc := lw_sp5 (b := Y11.heap.size) cc zz1 (.bool bw) (.bool be) (.int .u64 bl) (.int .u64 bh) (.slice p6 Xb.length c6)
      rw [show (((((Y18.setCell ⟨Y11.heap.size, 0, none⟩ (.bool bw)).setCell ⟨Y11.heap.size, 1, none⟩ (.bool be)).setCell ⟨Y11.heap.size, 2, none⟩ (.int .u64 bl)).setCell ⟨Y11.heap.size, 3, none⟩ (.int .u64 bh)).setCell ⟨Y11.heap.size, 4, none⟩ (.slice p6 Xb.length c6)) = set5 Y18 Y11.heap.size (.bool bw) (.bool be) (.int .u64 bl) (.int .u64 bh) (.slice p6 Xb.length c6) from rfl]
      generalize hY : set5 Y18 Y11.heap.size (.bool bw) (.bool be) (.int .u64 bl) (.int .u64 bh) (.slice p6 Xb.length c6) = Y19 at *
      clear hY
      refine hK.out _ _ (hall _ cc) (fun hH => ?_)
      clear hK K
      try simp only [Act.put, List.getElem_toArray, List.getElem_cons_zero, List.getElem_cons_succ, List.setIfInBounds_toArray, List.set_cons_zero, List.set_cons_succ]
      refine wpAnyH_done (by kernel_rfl) ?_ _
      go_wp2_with fail
      go_meet
      exact ⟨_, Y1.heap.size, Y11.heap.size, p5, c5, p6, c6, rfl, rfl, rfl, q0, q1, h5 _ (ta.on cc), h6 _ (tb.on cc), cc⟩
    ·skip
     go_simp
     have zz1 := cc.size
     have q1 := World.alloc_heap_new Y1 (.cells #[.bool false, .bool false, .int .u64 0, .int .u64 0, .slice none 0 0] 31)
     replace cc := sp_new cc (.cells #[.bool false, .bool false, .int .u64 0, .int .u64 0, .slice none 0 0] 31)
     generalize hY : Y1.alloc (.cells #[.bool false, .bool false, .int .u64 0, .int .u64 0, .slice none 0 0] 31) = Y20 at *
     clear hY
     refine hK.out _ _ (hall _ cc) (fun hH => ?_)
     clear hK K
     try simp only [Act.put, List.getElem_toArray, List.getElem_cons_zero, List.getElem_cons_succ, List.setIfInBounds_toArray, List.set_cons_zero, List.set_cons_succ]
     refine wpAnyH_ready (rs := [5, 6]) (by kernel_rfl) (by simp) (AllReadyH.cons (o := _) rfl (fun K hK => ?_) (AllReadyH.cons (o := _) rfl (fun K hK => ?_) AllReadyH.nil))
     ·skip
      go_simp
      refine (kg _ (TAt.on tb cc)).mono ?_
      rintro e Y21 ⟨⟨v, rfl, h6⟩, g⟩
      have h60 := h6 _ tb
      obtain ⟨p6, c6, rfl⟩ := h60.len
      clear h60
      replace cc := sp_call cc g
      replace q1 := lw_on g q1
      clear g
      go_wp2_with fail
      refine hK.out _ _ (hall _ cc) (fun hH => ?_)
      clear hK K
      try simp only [Act.put, List.getElem_toArray, List.getElem_cons_zero, List.getElem_cons_succ, List.setIfInBounds_toArray, List.set_cons_zero, List.set_cons_succ]
      refine wpAnyH_ready (rs := [6]) (by kernel_rfl) (by simp) (AllReadyH.cons (o := _) rfl (fun K hK => ?_) AllReadyH.nil)
      go_simp
      have zz0 := cc.size
      have ne0_1 : Y1.heap.size ≠ Y21.heap.size := Nat.ne_of_lt (lw_lt q1)
      replace q1 := lw_old q1 (.cells #[.bool false, .bool false, .int .u64 0, .int .u64 0, .slice none 0 0] 31)
      have q0 := World.alloc_heap_new Y21 (.cells #[.bool false, .bool false, .int .u64 0, .int .u64 0, .slice none 0 0] 31)
      replace cc := sp_new cc (.cells #[.bool false, .bool false, .int .u64 0, .int .u64 0, .slice none 0 0] 31)
      generalize hY : Y21.alloc (.cells #[.bool false, .bool false, .int .u64 0, .int .u64 0, .slice none 0 0] 31) = Y22 at *
      clear hY
      refine hK.out _ _ (hall _ cc) (fun hH => ?_)
      clear hK K
      try simp only [Act.put, List.getElem_toArray, List.getElem_cons_zero, List.getElem_cons_succ, List.setIfInBounds_toArray, List.set_cons_zero, List.set_cons_succ]
      refine wpAnyH_ready (rs := [8]) (by kernel_rfl) (by simp) (AllReadyH.cons (o := _) rfl (fun K hK => ?_) AllReadyH.nil)
      obtain ⟨q_0, q_1, q_2, q_3, q_4, qf⟩ := lw_cells5 q0
      go_simp
      clear q_0 q_1 q_2 q_3 q_4 qf
      replace q1 := lw_far5 (b := Y21.heap.size) q1 (.bool aw) (.bool ae) (.int .u64 al) (.int .u64 ah) (.slice p5 Xa.length c5) (by first | assumption | exact Ne.symm (by assumption))
      replace q0 := lw_set5 q0 (.bool aw) (.bool ae) (.int .u64 al) (.int .u64 ah) (.slice p5 Xa.length c5)
      replace cc := lw_sp5 (b := Y21.heap.size) cc zz0 (.bool aw) (.bool ae) (.int .u64 al) (.int .u64 ah) (.slice p5 Xa.length c5)
      rw [show (((((Y22.setCell ⟨Y21.heap.size, 0, none⟩ (.bool aw)).setCell ⟨Y21.heap.size, 1, none⟩ (.bool ae)).setCell ⟨Y21.heap.size, 2, none⟩ (.int .u64 al)).setCell ⟨Y21.heap.size, 3, none⟩ (.int .u64 ah)).setCell ⟨Y21.heap.size, 4, none⟩ (.slice p5 Xa.length c5)) = set5 Y22 Y21.heap.size (.bool aw) (.bool ae) (.int .u64 al) (.int .u64 ah) (.slice p5 Xa.length c5) from rfl]
      generalize hY : set5 Y22 Y21.heap.size (.bool aw) (.bool ae) (.int .u64 al) (.int .u64 ah) (.slice p5 Xa.length c5) = Y23 at *
      clear hY
      refine hK.out _ _ (hall _ cc) (fun hH => ?_)
      clear hK K
      try simp only [Act.put, List.getElem_toArray, List.getElem_cons_zero, List.getElem_cons_succ, List.setIfInBounds_toArray, List.set_cons_zero, List.set_cons_succ]
      refine wpAnyH_ready (rs := [9]) (by kernel_rfl) (by simp) (AllReadyH.cons (o := _) rfl (fun K hK => ?_) AllReadyH.nil)
      obtain ⟨q_0, q_1, q_2, q_3, q_4, qf⟩ := lw_cells5 q1
      go_simp
      clear q_0 q_1 q_2 q_3 q_4 qf
      replace q0 := lw_far5 (b := Y1.heap.size) q0 (.bool bw) (.bool be) (.int .u64 bl) (.int .u64 bh) (.slice p6 Xb.length c6) (by first | assumption | exact Ne.symm (by assumption))
      replace q1 := lw_set5 q1 (.bool bw) (.bool be) (.int .u64 bl) (.int .u64 bh) (.slice p6 Xb.length c6)
      replace cc := lw_sp5 (b := Y1.heap.size) cc zz1 (.bool bw) (.bool be) (.int .u64 bl) (.int .u64 bh) (.slice p6 Xb.length c6)
      rw [show (((((Y23.setCell ⟨Y1.heap.size, 0, none⟩ (.bool bw)).setCell ⟨Y1.heap.size, 1, none⟩ (.bool be)).setCell ⟨Y1.heap.size, 2, none⟩ (.int .u64 bl)).setCell ⟨Y1.heap.size, 3, none⟩ (.int .u64 bh)).setCell ⟨Y1.heap.size, 4, none⟩ (.slice p6 Xb.length c6)) = set5 Y23 Y1.heap.size (.bool bw) (.bool be) (.int .u64 bl) (.int .u64 bh) (.slice p6 Xb.length c6) from rfl]
      generalize hY : set5 Y23 Y1.heap.size (.bool bw) (.bool be) (.int .u64 bl) (.int .u64 bh) (.slice p6 Xb.length c6) = Y24 at *
      clear hY
      refine hK.out _ _ (hall _ cc) (fun hH => ?_)
      clear hK K
      try simp only [Act.put, List.getElem_toArray, List.getElem_cons_zero, List.getElem_cons_succ, List.setIfInBounds_toArray, List.set_cons_zero, List.set_cons_succ]
      refine wpAnyH_done (by kernel_rfl) ?_ _
      go_wp2_with fail
      go_meet
      exact ⟨_, Y21.heap.size, Y1.heap.size, p5, c5, p6, c6, rfl, rfl, rfl, q0, q1, h5 _ (ta.on cc), h6 _ (tb.on cc), cc⟩
     ·skip
      go_simp
      have zz0 := cc.size
      have ne0_1 : Y1.heap.size ≠ Y20.heap.size := Nat.ne_of_lt (lw_lt q1)
      replace q1 := lw_old q1 (.cells #[.bool false, .bool false, .int .u64 0, .int .u64 0, .slice none 0 0] 31)
      have q0 := World.alloc_heap_new Y20 (.cells #[.bool false, .bool false, .int .u64 0, .int .u64 0, .slice none 0 0] 31)
      replace cc := sp_new cc (.cells #[.bool false, .bool false, .int .u64 0, .int .u64 0, .slice none 0 0] 31)
      generalize hY : Y20.alloc (.cells #[.bool false, .bool false, .int .u64 0, .int .u64 0, .slice none 0 0] 31) = Y25 at *
      clear hY
      refine hK.out _ _ (hall _ cc) (fun hH => ?_)
      clear hK K
      try simp only [Act.put, List.getElem_toArray, List.getElem_cons_zero, List.getElem_cons_succ, List.setIfInBounds_toArray, List.set_cons_zero, List.set_cons_succ]
      refine wpAnyH_ready (rs := [5]) (by kernel_rfl) (by simp) (AllReadyH.cons (o := _) rfl (fun K hK => ?_) AllReadyH.nil)
      go_simp
      refine (kg _ (TAt.on tb cc)).mono ?_
      rintro e Y26 ⟨⟨v, rfl, h6⟩, g⟩
      have h60 := h6 _ tb
      obtain ⟨p6, c6, rfl⟩ := h60.len
      clear h60
      replace cc := sp_call cc g
      replace q0 := lw_on g q0
      replace q1 := lw_on g q1
      clear g
      go_wp2_with fail
      refine hK.out _ _ (hall _ cc) (fun hH => ?_)
      clear hK K
      try simp only [Act.put, List.getElem_toArray, List.getElem_cons_zero, List.getElem_cons_succ, List.setIfInBounds_toArray, List.set_cons_zero, List.set_cons_succ]
      refine wpAnyH_ready (rs := [8]) (by kernel_rfl) (by simp) (AllReadyH.cons (o := _) rfl (fun K hK => ?_) AllReadyH.nil)
      obtain ⟨q_0, q_1, q_2, q_3, q_4, qf⟩ := lw_cells5 q0
      go_simp
      clear q_0 q_1 q_2 q_3 q_4 qf
      replace q1 := lw_far5 (b := Y20.heap.size) q1 (.bool aw) (.bool ae) (.int .u64 al) (.int .u64 ah) (.slice p5 Xa.length c5) (by first | assumption | exact Ne.symm (by assumption))
      replace q0 := lw_set5 q0 (.bool aw) (.bool ae) (.int .u64 al) (.int .u64 ah) (.slice p5 Xa.length c5)
      replace cc := lw_sp5 (b := Y20.heap.size) cc zz0 (.bool aw) (.bool ae) (.int .u64 al) (.int .u64 ah) (.slice p5 Xa.length c5)
      rw [show (((((Y26.setCell ⟨Y20.heap.size, 0, none⟩ (.bool aw)).setCell ⟨Y20.heap.size, 1, none⟩ (.bool ae)).setCell ⟨Y20.heap.size, 2, none⟩ (.int .u64 al)).setCell ⟨Y20.heap.size, 3, none⟩ (.int .u64 ah)).setCell ⟨Y20.heap.size, 4, none⟩ (.slice p5 Xa.length c5)) = set5 Y26 Y20.heap.size (.bool aw) (.bool ae) (.int .u64 al) (.int .u64 ah) (.slice p5 Xa.length c5) from rfl]
      generalize hY : set5 Y26 Y20.heap.size (.bool aw) (.bool ae) (.int .u64 al) (.int .u64 ah) (.slice p5 Xa.length c5) = Y27 at *
      clear hY
      refine hK.out _ _ (hall _ cc) (fun hH => ?_)
      clear hK K
      try simp only [Act.put, List.getElem_toArray, List.getElem_cons_zero, List.getElem_cons_succ, List.setIfInBounds_toArray, List.set_cons_zero, List.set_cons_succ]
      refine wpAnyH_ready (rs := [9]) (by kernel_rfl) (by simp) (AllReadyH.cons (o := _) rfl (fun K hK => ?_) AllReadyH.nil)
      obtain ⟨q_0, q_1, q_2, q_3, q_4, qf⟩ := lw_cells5 q1
      go_simp
      clear q_0 q_1 q_2 q_3 q_4 qf
      replace q0 := lw_far5 (b := Y1.heap.size) q0 (.bool bw) (.bool be) (.int .u64 bl) (.int .u64 bh) (.slice p6 Xb.length c6) (by first | assumption | exact Ne.symm (by assumption))
      replace q1 := lw_set5 q1 (.bool bw) (.bool be) (.int .u64 bl) (.int .u64 bh) (.slice p6 Xb.length c6)
      replace cc := lw_sp5 (b := Y1.heap.size) cc zz1 (.bool bw) (.bool be) (.int .u64 bl) (.int .u64 bh) (.slice p6 Xb.length c6)
      rw [show (((((Y27.setCell ⟨Y1.heap.size, 0, none⟩ (.bool bw)).setCell ⟨Y1.heap.size, 1, none⟩ (.bool be)).setCell ⟨Y1.heap.size, 2, none⟩ (.int .u64 bl)).setCell ⟨Y1.heap.size, 3, none⟩ (.int .u64 bh)).setCell ⟨Y1.heap.size, 4, none⟩ (.slice p6 Xb.length c6)) = set5 Y27 Y1.heap.size (.bool bw) (.bool be) (.int .u64 bl) (.int .u64 bh) (.slice p6 Xb.length c6) from rfl]
      generalize hY : set5 Y27 Y1.heap.size (.bool bw) (.bool be) (.int .u64 bl) (.int .u64 bh) (.slice p6 Xb.length c6) = Y28 at *
      clear hY
      refine hK.out _ _ (hall _ cc) (fun hH => ?_)
      clear hK K
      try simp only [Act.put, List.getElem_toArray, List.getElem_cons_zero, List.getElem_cons_succ, List.setIfInBounds_toArray, List.set_cons_zero, List.set_cons_succ]
      refine wpAnyH_done (by kernel_rfl) ?_ _
      go_wp2_with fail
      go_meet
      exact ⟨_, Y20.heap.size, Y1.heap.size, p5, c5, p6, c6, rfl, rfl, rfl, q0, q1, h5 _ (ta.on cc), h6 _ (tb.on cc), cc⟩
   ·skip
    go_simp
    have zz0 := cc.size
    have q0 := World.alloc_heap_new Y0 (.cells #[.bool false, .bool false, .int .u64 0, .int .u64 0, .slice none 0 0] 31)
    replace cc := sp_new cc (.cells #[.bool false, .bool false, .int .u64 0, .int .u64 0, .slice none 0 0] 31)
    generalize hY : Y0.alloc (.cells #[.bool false, .bool false, .int .u64 0, .int .u64 0, .slice none 0 0] 31) = Y29 at *
    clear hY
    refine hK.out _ _ (hall _ cc) (fun hH => ?_)
    clear hK K
    try simp only [Act.put, List.getElem_toArray, List.getElem_cons_zero, List.getElem_cons_succ, List.setIfInBounds_toArray, List.set_cons_zero, List.set_cons_succ]
    refine wpAnyH_ready (rs := [2, 7]) (by kernel_rfl) (by simp) (AllReadyH.cons (o := _) rfl (fun K hK => ?_) (AllReadyH.cons (o := _) rfl (fun K hK => ?_) AllReadyH.nil))
    ·skip
     go_simp
     refine (kf _ (TAt.on ta cc)).mono ?_
     rintro e Y30 ⟨⟨v, rfl, h5⟩, g⟩
     have h50 := h5 _ ta
     obtain ⟨p5, c5, rfl⟩ := h50.len
     clear h50
     replace cc := sp_call cc g
     replace q0 := lw_on g q0
     clear g
     go_wp2_with fail
     refine hK.out _ _ (hall _ cc) (fun hH => ?_)
     clear hK K
     try simp only [Act.put, List.getElem_toArray, List.getElem_cons_zero, List.getElem_cons_succ, List.setIfInBounds_toArray, List.set_cons_zero, List.set_cons_succ]
     refine wpAnyH_ready (rs := [5, 7]) (by kernel_rfl) (by simp) (AllReadyH.cons (o := _) rfl (fun K hK => ?_) (AllReadyH.cons (o := _) rfl (fun K hK => ?_) AllReadyH.nil))
     ·skip
      go_simp
      refine (kg _ (TAt.on tb cc)).mono ?_
      rintro e Y31 ⟨⟨v, rfl, h6⟩, g⟩
      have h60 := h6 _ tb
      obtain ⟨p6, c6, rfl⟩ := h60.len
      clear h60
      replace cc := sp_call cc g
      replace q0 := lw_on g q0
      clear g
      go_wp2_with fail
      refine hK.out _ _ (hall _ cc) (fun hH => ?_)
      clear hK K
      try simp only [Act.put, List.getElem_toArray, List.getElem_cons_zero, List.getElem_cons_succ, List.setIfInBounds_toArray, List.set_cons_zero, List.set_cons_succ]
      refine wpAnyH_ready (rs := [7]) (by kernel_rfl) (by simp) (AllReadyH.cons (o := _) rfl (fun K hK => ?_) AllReadyH.nil)
      go_simp
      have zz1 := cc.size
      have ne0_1 : Y0.heap.size ≠ Y31.heap.size := Nat.ne_of_lt (lw_lt q0)
      replace q0 := lw_old q0 (.cells #[.bool false, .bool false, .int .u64 0, .int .u64 0, .slice none 0 0] 31)
      have q1 := World.alloc_heap_new Y31 (.cells #[.bool false, .bool false, .int .u64 0, .int .u64 0, .slice none 0 0] 31)
      replace cc := sp_new cc (.cells #[.bool false, .bool false, .int .u64 0, .int .u64 0, .slice none 0 0] 31)
      generalize hY : Y31.alloc (.cells #[.bool false, .bool false, .int .u64 0, .int .u64 0, .slice none 0 0] 31) = Y32 at *
      clear hY
      refine hK.out _ _ (hall _ cc) (fun hH => ?_)
      clear hK K
      try simp only [Act.put, List.getElem_toArray, List.getElem_cons_zero, List.getElem_cons_succ, List.setIfInBounds_toArray, List.set_cons_zero, List.set_cons_succ]
      refine wpAnyH_ready (rs := [8]) (by kernel_rfl) (by simp) (AllReadyH.cons (o := _) rfl (fun K hK => ?_) AllReadyH.nil)
      obtain ⟨q_0, q_1, q_2, q_3, q_4, qf⟩ := lw_cells5 q0
      go_simp
      clear q_0 q_1 q_2 q_3 q_4 qf
      replace q1 := lw_far5 (b := Y0.heap.size) q1 (.bool aw) (.bool ae) (.int .u64 al) (.int .u64 ah) (.slice p5 Xa.length c5) (by first | assumption | exact Ne.symm (by assumption))
      replace q0 := lw_set5 q0 (.bool aw) (.bool ae) (.int .u64 al) (.int .u64 ah) (.slice p5 Xa.length c5)
      replace cc := lw_sp5 (b := Y0.heap.size) cc zz0 (.bool aw) (.bool ae) (.int .u64 al) (.int .u64 ah) (.slice p5 Xa.length c5)
      rw [show (((((Y32.setCell ⟨Y0.heap.size, 0, none⟩ (.bool aw)).setCell ⟨Y0.heap.size, 1, none⟩ (.bool ae)).setCell ⟨Y0.heap.size, 2, none⟩ (.int .u64 al)).setCell ⟨Y0.heap.size, 3, none⟩ (.int .u64 ah)).setCell ⟨Y0.heap.size, 4, none⟩ (.slice p5 Xa.length c5)) = set5 Y32 Y0.heap.size (.bool aw) (.bool ae) (.int .u64 al) (.int .u64 ah) (.slice p5 Xa.length c5) from rfl]
      generalize hY : set5 Y32 Y0.heap.size (.bool aw) (.bool ae) (.int .u64 al) (.int .u64 ah) (.slice p5 Xa.length c5) = Y33 at *
      clear hY
      refine hK.out _ _ (hall _ cc) (fun hH => ?_)
      clear hK K
      try simp only [Act.put, List.getElem_toArray, List.getElem_cons_zero, List.getElem_cons_succ, List.setIfInBounds_toArray, List.set_cons_zero, List.set_cons_succ]
      refine wpAnyH_ready (rs := [9]) (by kernel_rfl) (by simp) (AllReadyH.cons (o := _) rfl (fun K hK => ?_) AllReadyH.nil)
      obtain ⟨q_0, q_1, q_2, q_3, q_4, qf⟩ := lw_cells5 q1
      go_simp
      clear q_0 q_1 q_2 q_3 q_4 qf
      replace q0 := lw_far5 (b := Y31.heap.size) q0 (.bool bw) (.bool be) (.int .u64 bl) (.int .u64 bh) (.slice p6 Xb.length c6) (by first | assumption | exact Ne.symm (by assumption))
      replace q1 := lw_set5 q1 (.bool bw) (.bool be) (.int .u64 bl) (.int .u64 bh) (.slice p6 Xb.length c6)
      replace cc := lw_sp5 (b := Y31.heap.size) cc zz1 (.bool bw) (.bool be) (.int .u64 bl) (.int .u64 bh) (.slice p6 Xb.length c6)
      rw [show (((((Y33.setCell ⟨Y31.heap.size, 0, none⟩ (.bool bw)).setCell ⟨Y31.heap.size, 1, none⟩ (.bool be)).setCell ⟨Y31.heap.size, 2, none⟩ (.int .u64 bl)).setCell ⟨Y31.heap.size, 3, none⟩ (.int .u64 bh)).setCell ⟨Y31.heap.size, 4, none⟩ (.slice p6 Xb.length c6)) = set5 Y33 Y31.heap.size (.bool bw) (.bool be) (.int .u64 bl) (.int .u64 bh) (.slice p6 Xb.length c6) from rfl]
      generalize hY : set5 Y33 Y31.heap.size (.bool bw) (.bool be) (.int .u64 bl) (.int .u64 bh) (.slice p6 Xb.length c6) = Y34 at *
      clear hY
      refine hK.out _ _ (hall _ cc) (fun hH => ?_)
      clear hK K
      try simp only [Act.put, List.getElem_toArray, List.getElem_cons_zero, List.getElem_cons_succ, List.setIfInBounds_toArray, List.set_cons_zero, List.set_cons_succ]
      refine wpAnyH_done (by kernel_rfl) ?_ _
      go_wp2_with fail
      go_meet
      exact ⟨_, Y0.heap.size, Y31.heap.size, p5, c5, p6, c6, rfl, rfl, rfl, q0, q1, h5 _ (ta.on cc), h6 _ (tb.on cc), cc⟩
     ·skip
      go_simp
      have zz1 := cc.size
      have ne0_1 : Y0.heap.size ≠ Y30.heap.size := Nat.ne_of_lt (lw_lt q0)
      replace q0 := lw_old q0 (.cells #[.bool false, .bool false, .int .u64 0, .int .u64 0, .slice none 0 0] 31)
      have q1 := World.alloc_heap_new Y30 (.cells #[.bool false, .bool false, .int .u64 0, .int .u64 0, .slice none 0 0] 31)
      replace cc := sp_new cc (.cells #[.bool false, .bool false, .int .u64 0, .int .u64 0, .slice none 0 0] 31)
      generalize hY : Y30.alloc (.cells #[.bool false, .bool false, .int .u64 0, .int .u64 0, .slice none 0 0] 31) = Y35 at *
      clear hY
      refine hK.out _ _ (hall _ cc) (fun hH => ?_)
      clear hK K
      try simp only [Act.put, List.getElem_toArray, List.getElem_cons_zero, List.getElem_cons_succ, List.setIfInBounds_toArray, List.set_cons_zero, List.set_cons_succ]
      refine wpAnyH_ready (rs := [5]) (by kernel_rfl) (by simp) (AllReadyH.cons (o := _) rfl (fun K hK => ?_) AllReadyH.nil)
      go_simp
      refine (kg _ (TAt.on tb cc)).mono ?_
      rintro e Y36 ⟨⟨v, rfl, h6⟩, g⟩
      have h60 := h6 _ tb
      obtain ⟨p6, c6, rfl⟩ := h60.len
      clear h60
      replace cc := sp_call cc g
      replace q0 := lw_on g q0
      replace q1 := lw_on g q1
      clear g
      go_wp2_with fail
      refine hK.out _ _ (hall _ cc) (fun hH => ?_)
      clear hK K
      try simp only [Act.put, List.getElem_toArray, List.getElem_cons_zero, List.getElem_cons_succ, List.setIfInBounds_toArray, List.set_cons_zero, List.set_cons_succ]
      refine wpAnyH_ready (rs := [8]) (by kernel_rfl) (by simp) (AllReadyH.cons (o := _) rfl (fun K hK => ?_) AllReadyH.nil)
      obtain ⟨q_0, q_1, q_2, q_3, q_4, qf⟩ := lw_cells5 q0
      go_simp
      clear q_0 q_1 q_2 q_3 q_4 qf
      replace q1 := lw_far5 (b := Y0.heap.size) q1 (.bool aw) (.bool ae) (.int .u64 al) (.int .u64 ah) (.slice p5 Xa.length c5) (by first | assumption | exact Ne.symm (by assumption))
      replace q0 := lw_set5 q0 (.bool aw) (.bool ae) (.int .u64 al) (.int .u64 ah) (.slice p5 Xa.length c5)
      replace cc := lw_sp5 (b := Y0.heap.size) cc zz0 (.bool aw) (.bool ae) (.int .u64 al) (.int .u64 ah) (.slice p5 Xa.length c5)
      rw [show (((((Y36.setCell ⟨Y0.heap.size, 0, none⟩ (.bool aw)).setCell ⟨Y0.heap.size, 1, none⟩ (.bool ae)).setCell ⟨Y0.heap.size, 2, none⟩ (.int .u64 al)).setCell ⟨Y0.heap.size, 3, none⟩ (.int .u64 ah)).setCell ⟨Y0.heap.size, 4, none⟩ (.slice p5 Xa.length c5)) = set5 Y36 Y0.heap.size (.bool aw) (.bool ae) (.int .u64 al) (.int .u64 ah) (.slice p5 Xa.length c5) from rfl]
      generalize hY : set5 Y36 Y0.heap.size (.bool aw) (.bool ae) (.int .u64 al) (.int .u64 ah) (.slice p5 Xa.length c5) = Y37 at *
      clear hY
      refine hK.out _ _ (hall _ cc) (fun hH => ?_)
      clear hK K
      try simp only [Act.put, List.getElem_toArray, List.getElem_cons_zero, List.getElem_cons_succ, List.setIfInBounds_toArray, List.set_cons_zero, List.set_cons_succ]
      refine wpAnyH_ready (rs := [9]) (by kernel_rfl) (by simp) (AllReadyH.cons (o := _) rfl (fun K hK => ?_) AllReadyH.nil)
      obtain ⟨q_0, q_1, q_2, q_3, q_4, qf⟩ := lw_cells5 q1
      go_simp
      clear q_0 q_1 q_2 q_3 q_4 qf
      replace q0 := lw_far5 (b := Y30.heap.size) q0 (.bool bw) (.bool be) (.int .u64 bl) (.int .u64 bh) (.slice p6 Xb.length c6) (by first | assumption | exact Ne.symm (by assumption))
      replace q1 := lw_set5 q1 (.bool bw) (.bool be) (.int .u64 bl) (.int .u64 bh) (.slice p6 Xb.length c6)
      replace cc := lw_sp5 (b := Y30.heap.size) cc zz1 (.bool bw) (.bool be) (.int .u64 bl) (.int .u64 bh) (.slice p6 Xb.length c6)
      rw [show (((((Y37.setCell ⟨Y30.heap.size, 0, none⟩ (.bool bw)).setCell ⟨Y30.heap.size, 1, none⟩ (.bool be)).setCell ⟨Y30.heap.size, 2, none⟩ (.int .u64 bl)).setCell ⟨Y30.heap.size, 3, none⟩ (.int .u64 bh)).setCell ⟨Y30.heap.size, 4, none⟩ (.slice p6 Xb.length c6)) = set5 Y37 Y30.heap.size (.bool bw) (.bool be) (.int .u64 bl) (.int .u64 bh) (.slice p6 Xb.length c6) from rfl]
      generalize hY : set5 Y37 Y30.heap.size (.bool bw) (.bool be) (.int .u64 bl) (.int .u64 bh) (.slice p6 Xb.length c6) = Y38 at *
      clear hY
      refine hK.out _ _ (hall _ cc) (fun hH => ?_)
      clear hK K
      try simp only [Act.put, List.getElem_toArray, List.getElem_cons_zero, List.getElem_cons_succ, List.setIfInBounds_toArray, List.set_cons_zero, List.set_cons_succ]
      refine wpAnyH_done (by kernel_rfl) ?_ _
      go_wp2_with fail
      go_meet
      exact ⟨_, Y0.heap.size, Y30.heap.size, p5, c5, p6, c6, rfl, rfl, rfl, q0, q1, h5 _ (ta.on cc), h6 _ (tb.on cc), cc⟩
    ·skip
     go_simp
     have zz1 := cc.size
     have ne0_1 : Y0.heap.size ≠ Y29.heap.size := Nat.ne_of_lt (lw_lt q0)
     replace q0 := lw_old q0 (.cells #[.bool false, .bool false, .int .u64 0, .int .u64 0, .slice none 0 0] 31)
     have q1 := World.alloc_heap_new Y29 (.cells #[.bool false, .bool false, .int .u64 0, .int .u64 0, .slice none 0 0] 31)
     replace cc := sp_new cc (.cells #[.bool false, .bool false, .int .u64 0, .int .u64 0, .slice none 0 0] 31)
     generalize hY : Y29.alloc (.cells #[.bool false, .bool false, .int .u64 0, .int .u64 0, .slice none 0 0] 31) = Y39 at *
     clear hY
     refine hK.out _ _ (hall _ cc) (fun hH => ?_)
     clear hK K
     try simp only [Act.put, List.getElem_toArray, List.getElem_cons_zero, List.getElem_cons_succ, List.setIfInBounds_toArray, List.set_cons_zero, List.set_cons_succ]
     refine wpAnyH_ready (rs := [2]) (by kernel_rfl) (by simp) (AllReadyH.cons (o := _) rfl (fun K hK => ?_) AllReadyH.nil)
     go_simp
     refine (kf _ (TAt.on ta cc)).mono ?_
     rintro e Y40 ⟨⟨v, rfl, h5⟩, g⟩
     have h50 := h5 _ ta
     obtain ⟨p5, c5, rfl⟩ := h50.len
     clear h50
     replace cc := sp_call cc g
     replace q0 := lw_on g q0
     replace q1 := lw_on g q1
     clear g
     go_wp2_with fail
     refine hK.out _ _ (hall _ cc) (fun hH => ?_)
     clear hK K
     try simp only [Act.put, List.getElem_toArray, List.getElem_cons_zero, List.getElem_cons_succ, List.setIfInBounds_toArray, List.set_cons_zero, List.set_cons_succ]
     refine wpAnyH_ready (rs := [5]) (by kernel_rfl) (by simp) (AllReadyH.cons (o := _) rfl (fun K hK => ?_) AllReadyH.nil)
     go_simp
     refine (kg _ (TAt.on tb cc)).mono ?_
     rintro e Y41 ⟨⟨v, rfl, h6⟩, g⟩
     have h60 := h6 _ tb
     obtain ⟨p6, c6, rfl⟩ := h60.len
     clear h60
     replace cc := sp_call cc g
     replace q0 := lw_on g q0
     replace q1 := lw_on g q1
     clear g
     go_wp2_with fail
     refine hK.out _ _ (hall _ cc) (fun hH => ?_)
     clear hK K
     try simp only [Act.put, List.getElem_toArray, List.getElem_cons_zero, List.getElem_cons_succ, List.setIfInBounds_toArray, List.set_cons_zero, List.set_cons_succ]
     refine wpAnyH_ready (rs := [8]) (by kernel_rfl) (by simp) (AllReadyH.cons (o := _) rfl (fun K hK => ?_) AllReadyH.nil)
     obtain ⟨q_0, q_1, q_2, q_3, q_4, qf⟩ := lw_cells5 q0
     go_simp
     clear q_0 q_1 q_2 q_3 q_4 qf
     replace q1 := lw_far5 (b := Y0.heap.size) q1 (.bool aw) (.bool ae) (.int .u64 al) (.int .u64 ah) (.slice p5 Xa.length c5) (by first | assumption | exact Ne.symm (by assumption))
     replace q0 := lw_set5 q0 (.bool aw) (.bool ae) (.int .u64 al) (.int .u64 ah) (.slice p5 Xa.length c5)
     replace cc := lw_sp5 (b := Y0.heap.size) cc zz0 (.bool aw) (.bool ae) (.int .u64 al) (.int .u64 ah) (.slice p5 Xa.length c5)
     rw [show (((((Y41.setCell ⟨Y0.heap.size, 0, none⟩ (.bool aw)).setCell ⟨Y0.heap.size, 1, none⟩ (.bool ae)).setCell ⟨Y0.heap.size, 2, none⟩ (.int .u64 al)).setCell ⟨Y0.heap.size, 3, none⟩ (.int .u64 ah)).setCell ⟨Y0.heap.size, 4, none⟩ (.slice p5 Xa.length c5)) = set5 Y41 Y0.heap.size (.bool aw) (.bool ae) (.int .u64 al) (.int .u64 ah) (.slice p5 Xa.length c5) from rfl]
     generalize hY : set5 Y41 Y0.heap.size (.bool aw) (.bool ae) (.int .u64 al) (.int .u64 ah) (.slice p5 Xa.length c5) = Y42 at *
     clear hY
     refine hK.out _ _ (hall _ cc) (fun hH => ?_)
     clear hK K
     try simp only [Act.put, List.getElem_toArray, List.getElem_cons_zero, List.getElem_cons_succ, List.setIfInBounds_toArray, List.set_cons_zero, List.set_cons_succ]
     refine wpAnyH_ready (rs := [9]) (by kernel_rfl) (by simp) (AllReadyH.cons (o := _) rfl (fun K hK => ?_) AllReadyH.nil)
     obtain ⟨q_0, q_1, q_2, q_3, q_4, qf⟩ := lw_cells5 q1
     go_simp
     clear q_0 q_1 q_2 q_3 q_4 qf
     replace q0 := lw_far5 (b := Y29.heap.size) q0 (.bool bw) (.bool be) (.int .u64 bl) (.int .u64 bh) (.slice p6 Xb.length c6) (by first | assumption | exact Ne.symm (by assumption))
     replace q1 := lw_set5 q1 (.bool bw) (.bool be) (.int .u64 bl) (.int .u64 bh) (.slice p6 Xb.length c6)
     replace cc := lw_sp5 (b := Y29.heap.size) cc zz1 (.bool bw) (.bool be) (.int .u64 bl) (.int .u64 bh) (.slice p6 Xb.length c6)
     rw [show (((((Y42.setCell ⟨Y29.heap.size, 0, none⟩ (.bool bw)).setCell ⟨Y29.heap.size, 1, none⟩ (.bool be)).setCell ⟨Y29.heap.size, 2, none⟩ (.int .u64 bl)).setCell ⟨Y29.heap.size, 3, none⟩ (.int .u64 bh)).setCell ⟨Y29.heap.size, 4, none⟩ (.slice p6 Xb.length c6)) = set5 Y42 Y29.heap.size (.bool bw) (.bool be) (.int .u64 bl) (.int .u64 bh) (.slice p6 Xb.length c6) from rfl]
     generalize hY : set5 Y42 Y29.heap.size (.bool bw) (.bool be) (.int .u64 bl) (.int .u64 bh) (.slice p6 Xb.length c6) = Y43 at *
     clear hY
     refine hK.out _ _ (hall _ cc) (fun hH => ?_)
     clear hK K
     try simp only [Act.put, List.getElem_toArray, List.getElem_cons_zero, List.getElem_cons_succ, List.setIfInBounds_toArray, List.set_cons_zero, List.set_cons_succ]
     refine wpAnyH_done (by kernel_rfl) ?_ _
     go_wp2_with fail
     go_meet
     exact ⟨_, Y0.heap.size, Y29.heap.size, p5, c5, p6, c6, rfl, rfl, rfl, q0, q1, h5 _ (ta.on cc), h6 _ (tb.on cc), cc⟩
   ·skip
    go_simp
    have zz1 := cc.size
    have q1 := World.alloc_heap_new Y0 (.cells #[.bool false, .bool false, .int .u64 0, .int .u64 0, .slice none 0 0] 31)
    replace cc := sp_new cc (.cells #[.bool false, .bool false, .int .u64 0, .int .u64 0, .slice none 0 0] 31)
    generalize hY : Y0.alloc (.cells #[.bool false, .bool false, .int .u64 0, .int .u64 0, .slice none 0 0] 31) = Y44 at *
    clear hY
    refine hK.out _ _ (hall _ cc) (fun hH => ?_)
    clear hK K
    try simp only [Act.put, List.getElem_toArray, List.getElem_cons_zero, List.getElem_cons_succ, List.setIfInBounds_toArray, List.set_cons_zero, List.set_cons_succ]
    refine wpAnyH_ready (rs := [2, 6]) (by kernel_rfl) (by simp) (AllReadyH.cons (o := _) rfl (fun K hK => ?_) (AllReadyH.cons (o := _) rfl (fun K hK => ?_) AllReadyH.nil))
    ·skip
     go_simp
     refine (kf _ (TAt.on ta cc)).mono ?_
     rintro e Y45 ⟨⟨v, rfl, h5⟩, g⟩
     have h50 := h5 _ ta
     obtain ⟨p5, c5, rfl⟩ := h50.len
     clear h50
     replace cc := sp_call cc g
     replace q1 := lw_on g q1
     clear g
     go_wp2_with fail
     refine hK.out _ _ (hall _ cc) (fun hH => ?_)
     clear hK K
     try simp only [Act.put, List.getElem_toArray, List.getElem_cons_zero, List.getElem_cons_succ, List.setIfInBounds_toArray, List.set_cons_zero, List.set_cons_succ]
     refine wpAnyH_ready (rs := [5, 6]) (by kernel_rfl) (by simp) (AllReadyH.cons (o := _) rfl (fun K hK => ?_) (AllReadyH.cons (o := _) rfl (fun K hK => ?_) AllReadyH.nil))
     ·skip
      go_simp
      refine (kg _ (TAt.on tb cc)).mono ?_
      rintro e Y46 ⟨⟨v, rfl, h6⟩, g⟩
      have h60 := h6 _ tb
      obtain ⟨p6, c6, rfl⟩ := h60.len
      clear h60
      replace cc := sp_call cc g
      replace q1 := lw_on g q1
      clear g
      go_wp2_with fail
      refine hK.out _ _ (hall _ cc) (fun hH => ?_)
      clear hK K
      try simp only [Act.put, List.getElem_toArray, List.getElem_cons_zero, List.getElem_cons_succ, List.setIfInBounds_toArray, List.set_cons_zero, List.set_cons_succ]
      refine wpAnyH_ready (rs := [6]) (by kernel_rfl) (by simp) (AllReadyH.cons (o := _) rfl (fun K hK => ?_) AllReadyH.nil)
      go_simp
      have zz0 := cc.size
      have ne0_1 : Y0.heap.size ≠ Y46.heap.size := Nat.ne_of_lt (lw_lt q1)
      replace q1 := lw_old q1 (.cells #[.bool false, .bool false, .int .u64 0, .int .u64 0, .slice none 0 0] 31)
      have q0 := World.alloc_heap_new Y46 (.cells #[.bool false, .bool false, .int .u64 0, .int .u64 0, .slice none 0 0] 31)
      replace cc := sp_new cc (.cells #[.bool false, .bool false, .int .u64 0, .int .u64 0, .slice none 0 0] 31)
      generalize hY : Y46.alloc (.cells #[.bool false, .bool false, .int .u64 0, .int .u64 0, .slice none 0 0] 31) = Y47 at *
      clear hY
      refine hK.out _ _ (hall _ cc) (fun hH => ?_)
      clear hK K
      try simp only [Act.put, List.getElem_toArray, List.getElem_cons_zero, List.getElem_cons_succ, List.setIfInBounds_toArray, List.set_cons_zero, List.set_cons_succ]
      refine wpAnyH_ready (rs := [8]) (by kernel_rfl) (by simp) (AllReadyH.cons (o := _) rfl (fun K hK => ?_) AllReadyH.nil)
      obtain ⟨q_0, q_1, q_2, q_3, q_4, qf⟩ := lw_cells5 q0
      go_simp
      clear q_0 q_1 q_2 q_3 q_4 qf
      replace q1 := lw_far5 (b := Y46.heap.size) q1 (.bool aw) (.bool ae) (.int .u64 al) (.int .u64 ah) (.slice p5 Xa.length c5) (by first | assumption | exact Ne.symm (by assumption))
      replace q0 := lw_set5 q0 (.bool aw) (.bool ae) (.int .u64 al) (.int .u64 ah) (.slice p5 Xa.length c5)
      replace cc := lw_sp5 (b := Y46.heap.size) cc zz0 (.bool aw) (.bool ae) (.int .u64 al) (.int .u64 ah) (.slice p5 Xa.length c5)
      rw [show (((((Y47.setCell ⟨Y46.heap.size, 0, none⟩ (.bool aw)).setCell ⟨Y46.heap.size, 1, none⟩ (.bool ae)).setCell ⟨Y46.heap.size, 2, none⟩ (.int .u64 al)).setCell ⟨Y46.heap.size, 3, none⟩ (.int .u64 ah)).setCell ⟨Y46.heap.size, 4, none⟩ (.slice p5 Xa.length c5)) = set5 Y47 Y46.heap.size (.bool aw) (.bool ae) (.int .u64 al) (.int .u64 ah) (.slice p5 Xa.length c5) from rfl]
      generalize hY : set5 Y47 Y46.heap.size (.bool aw) (.bool ae) (.int .u64 al) (.int .u64 ah) (.slice p5 Xa.length c5) = Y48 at *
      clear hY
      refine hK.out _ _ (hall _ cc) (fun hH => ?_)
      clear hK K
      try simp only [Act.put, List.getElem_toArray, List.getElem_cons_zero, List.getElem_cons_succ, List.setIfInBounds_toArray, List.set_cons_zero, List.set_cons_succ]
      refine wpAnyH_ready (rs := [9]) (by kernel_rfl) (by simp) (AllReadyH.cons (o := _) rfl (fun K hK => ?_) AllReadyH.nil)
      obtain ⟨q_0, q_1, q_2, q_3, q_4, qf⟩ := lw_cells5 q1
      go_simp
      clear q_0 q_1 q_2 q_3 q_4 qf
      replace q0 := lw_far5 (b := Y0.heap.size) q0 (.bool bw) (.bool be) (.int .u64 bl) (.int .u64 bh) (.slice p6 Xb.length c6) (by first | assumption | exact Ne.symm (by assumption))
      replace q1 := lw_set5 q1 (.bool bw) (.bool be) (.int .u64 bl) (.int .u64 bh) (.slice p6 Xb.length c6)
      replace cc := lw_sp5 (b := Y0.heap.size) cc zz1 (.bool bw) (.bool be) (.int .u64 bl) (.int .u64 bh) (.slice p6 Xb.length c6)
      rw [show (((((Y48.setCell ⟨Y0.heap.size, 0, none⟩ (.bool bw)).setCell ⟨Y0.heap.size, 1, none⟩ (.bool be)).setCell ⟨Y0.heap.size, 2, none⟩ (.int .u64 bl)).setCell ⟨Y0.heap.size, 3, none⟩ (.int .u64 bh)).setCell ⟨Y0.heap.size, 4, none⟩ (.slice p6 Xb.length c6)) = set5 Y48 Y0.heap.size (.bool bw) (.bool be) (.int .u64 bl) (.int .u64 bh) (.slice p6 Xb.length c6) from rfl]
      generalize hY : set5 Y48 Y0.heap.size (.bool bw) (.bool be) (.int .u64 bl) (.int .u64 bh) (.slice p6 Xb.length c6) = Y49 at *
      clear hY
      refine hK.out _ _ (hall _ cc) (fun hH => ?_)
      clear hK K
      try simp only [Act.put, List.getElem_toArray, List.getElem_cons_zero, List.getElem_cons_succ, List.setIfInBounds_toArray, List.set_cons_zero, List.set_cons_succ]
      refine wpAnyH_done (by kernel_rfl) ?_ _
      go_wp2_with fail
      go_meet
      exact ⟨_, Y46.heap.size, Y0.heap.size, p5, c5, p6, c6, rfl, rfl, rfl, q0, q1, h5 _ (ta.on cc), h6 _ (tb.on cc), cc⟩
     ·skip
      go_simp
      have zz0 := cc.size
      have ne0_1 : Y0.heap.size ≠ Y45.heap.size := Nat.ne_of_lt (lw_lt q1)
      replace q1 := lw_old q1 (.cells #[.bool false, .bool false, .int .u64 0, .int .u64 0, .slice none 0 0] 31)
      have q0 := World.alloc_heap_new Y45 (.cells #[.bool false, .bool false, .int .u64 0, .int .u64 0, .slice none 0 0] 31)
      replace cc := sp_new cc (.cells #[.bool false, .bool false, .int .u64 0, .int .u64 0, .slice none 0 0] 31)
      generalize hY : Y45.alloc (.cells #[.bool false, .bool false, .int .u64 0, .int .u64 0, .slice none 0 0] 31) = Y50 at *
      clear hY
      refine hK.out _ _ (hall _ cc) (fun hH => ?_)
      clear hK K
      try simp only [Act.put, List.getElem_toArray, List.getElem_cons_zero, List.getElem_cons_succ, List.setIfInBounds_toArray, List.set_cons_zero, List.set_cons_succ]
      refine wpAnyH_ready (rs := [5]) (by kernel_rfl) (by simp) (AllReadyH.cons (o := _) rfl (fun K hK => ?_) AllReadyH.nil)
      go_simp
      refine (kg _ (TAt.on tb cc)).mono ?_
      rintro e Y51 ⟨⟨v, rfl, h6⟩, g⟩
      have h60 := h6 _ tb
      obtain ⟨p6, c6, rfl⟩ := h60.len
      clear h60
      replace cc := sp_call cc g
      replace q0 := lw_on g q0
      replace q1 := lw_on g q1
      clear g
      go_wp2_with fail
      refine hK.out _ _ (hall _ cc) (fun hH => ?_)
      clear hK K
      try simp only [Act.put, List.getElem_toArray, List.getElem_cons_zero, List.getElem_cons_succ, List.setIfInBounds_toArray, List.set_cons_zero, List.set_cons_succ]
      refine wpAnyH_ready (rs := [8]) (by kernel_rfl) (by simp) (AllReadyH.cons (o := _) rfl (fun K hK => ?_) AllReadyH.nil)
      obtain ⟨q_0, q_1, q_2, q_3, q_4, qf⟩ := lw_cells5 q0
      go_simp
      clear q_0 q_1 q_2 q_3 q_4 qf
      replace q1 := lw_far5 (b := Y45.heap.size) q1 (.bool aw) (.bool ae) (.int .u64 al) (.int .u64 ah) (.slice p5 Xa.length c5) (by first | assumption | exact Ne.symm (by assumption))
      replace q0 := lw_set5 q0 (.bool aw) (.bool ae) (.int .u64 al) (.int .u64 ah) (.slice p5 Xa.length c5)
      replace cc := lw_sp5 (b := Y45.heap.size) cc zz0 (.bool aw) (.bool ae) (.int .u64 al) (.int .u64 ah) (.slice p5 Xa.length c5)
      rw [show (((((Y51.setCell ⟨Y45.heap.size, 0, none⟩ (.bool aw)).setCell ⟨Y45.heap.size, 1, none⟩ (.bool ae)).setCell ⟨Y45.heap.size, 2, none⟩ (.int .u64 al)).setCell ⟨Y45.heap.size, 3, none⟩ (.int .u64 ah)).setCell ⟨Y45.heap.size, 4, none⟩ (.slice p5 Xa.length c5)) = set5 Y51 Y45.heap.size (.bool aw) (.bool ae) (.int .u64 al) (.int .u64 ah) (.slice p5 Xa.length c5) from rfl]
      generalize hY : set5 Y51 Y45.heap.size (.bool aw) (.bool ae) (.int .u64 al) (.int .u64 ah) (.slice p5 Xa.length c5) = Y52 at *
      clear hY
      refine hK.out _ _ (hall _ cc) (fun hH => ?_)
      clear hK K
      try simp only [Act.put, List.getElem_toArray, List.getElem_cons_zero, List.getElem_cons_succ, List.setIfInBounds_toArray, List.set_cons_zero, List.set_cons_succ]
      refine wpAnyH_ready (rs := [9]) (by kernel_rfl) (by simp) (AllReadyH.cons (o := _) rfl (fun K hK => ?_) AllReadyH.nil)
      obtain ⟨q_0, q_1, q_2, q_3, q_4, qf⟩ := lw_cells5 q1
      go_simp
      clear q_0 q_1 q_2 q_3 q_4 qf
      replace q0 := lw_far5 (b := Y0.heap.size) q0 (.bool bw) (.bool be) (.int .u64 bl) (.int .u64 bh) (.slice p6 Xb.length c6) (by first | assumption | exact Ne.symm (by assumption))
      replace q1 := lw_set5 q1 (.bool bw) (.bool be) (.int .u64 bl) (.int .u64 bh) (.slice p6 Xb.length c6)
      replace cc := lw_sp5 (b := Y0.heap.size) cc zz1 (.bool bw) (.bool be) (.int .u64 bl) (.int .u64 bh) (.slice p6 Xb.length c6)
      rw [show (((((Y52.setCell ⟨Y0.heap.size, 0, none⟩ (.bool bw)).setCell ⟨Y0.heap.size, 1, none⟩ (.bool be)).setCell ⟨Y0.heap.size, 2, none⟩ (.int .u64 bl)).setCell ⟨Y0.heap.size, 3, none⟩ (.int .u64 bh)).setCell ⟨Y0.heap.size, 4, none⟩ (.slice p6 Xb.length c6)) = set5 Y52 Y0.heap.size (.bool bw) (.bool be) (.int .u64 bl) (.int .u64 bh) (.slice p6 Xb.length c6) from rfl]
      generalize hY : set5 Y52 Y0.heap.size (.bool bw) (.bool be) (.int .u64 bl) (.int .u64 bh) (.slice p6 Xb.length c6) = Y53 at *
      clear hY
      refine hK.out _ _ (hall _ cc) (fun hH => ?_)
      clear hK K
      try simp only [Act.put, List.getElem_toArray, List.getElem_cons_zero, List.getElem_cons_succ, List.setIfInBounds_toArray, List.set_cons_zero, List.set_cons_succ]
      refine wpAnyH_done (by kernel_rfl) ?_ _
      go_wp2_with fail
      go_meet
      exact ⟨_, Y45.heap.size, Y0.heap.size, p5, c5, p6, c6, rfl, rfl, rfl, q0, q1, h5 _ (ta.on cc), h6 _ (tb.on cc), cc⟩
    ·skip
     go_simp
     have zz0 := cc.size
     have ne0_1 : Y0.heap.size ≠ Y44.heap.size := Nat.ne_of_lt (lw_lt q1)
     replace q1 := lw_old q1 (.cells #[.bool false, .bool false, .int .u64 0, .int .u64 0, .slice none 0 0] 31)
     have q0 := World.alloc_heap_new Y44 (.cells #[.bool false, .bool false, .int .u64 0, .int .u64 0, .slice none 0 0] 31)
     replace cc := sp_new cc (.cells #[.bool false, .bool false, .int .u64 0, .int .u64 0, .slice none 0 0] 31)
     generalize hY : Y44.alloc (.cells #[.bool false, .bool false, .int .u64 0, .int .u64 0, .slice none 0 0] 31) = Y54 at *
     clear hY
     refine hK.out _ _ (hall _ cc) (fun hH => ?_)
     clear hK K
     try simp only [Act.put, List.getElem_toArray, List.getElem_cons_zero, List.getElem_cons_succ, List.setIfInBounds_toArray, List.set_cons_zero, List.set_cons_succ]
     refine wpAnyH_ready (rs := [2]) (by kernel_rfl) (by simp) (AllReadyH.cons (o := _) rfl (fun K hK => ?_) AllReadyH.nil)
     go_simp
     refine (kf _ (TAt.on ta cc)).mono ?_
     rintro e Y55 ⟨⟨v, rfl, h5⟩, g⟩
     have h50 := h5 _ ta
     obtain ⟨p5, c5, rfl⟩ := h50.len
     clear h50
     replace cc := sp_call cc g
     replace q0 := lw_on g q0
     replace q1 := lw_on g q1
     clear g
     go_wp2_with fail
     refine hK.out _ _ (hall _ cc) (fun hH => ?_)
     clear hK K
     try simp only [Act.put, List.getElem_toArray, List.getElem_cons_zero, List.getElem_cons_succ, List.setIfInBounds_toArray, List.set_cons_zero, List.set_cons_succ]
     refine wpAnyH_ready (rs := [5]) (by kernel_rfl) (by simp) (AllReadyH.cons (o := _) rfl (fun K hK => ?_) AllReadyH.nil)
     go_simp
     refine (kg _ (TAt.on tb cc)).mono ?_
     rintro e Y56 ⟨⟨v, rfl, h6⟩, g⟩
     have h60 := h6 _ tb
     obtain ⟨p6, c6, rfl⟩ := h60.len
     clear h60
     replace cc := sp_call cc g
     replace q0 := lw_on g q0
     replace q1 := lw_on g q1
     clear g
     go_wp2_with fail
     refine hK.out _ _ (hall _ cc) (fun hH => ?_)
     clear hK K
     try simp only [Act.put, List.getElem_toArray, List.getElem_cons_zero, List.getElem_cons_succ, List.setIfInBounds_toArray, List.set_cons_zero, List.set_cons_succ]
     refine wpAnyH_ready (rs := [8]) (by kernel_rfl) (by simp) (AllReadyH.cons (o := _) rfl (fun K hK => ?_) AllReadyH.nil)
     obtain ⟨q_0, q_1, q_2, q_3, q_4, qf⟩ := lw_cells5 q0
     go_simp
     clear q_0 q_1 q_2 q_3 q_4 qf
     replace q1 := lw_far5 (b := Y44.heap.size) q1 (.bool aw) (.bool ae) (.int .u64 al) (.int .u64 ah) (.slice p5 Xa.length c5) (by first | assumption | exact Ne.symm (by assumption))
     replace q0 := lw_set5 q0 (.bool aw) (.bool ae) (.int .u64 al) (.int .u64 ah) (.slice p5 Xa.length c5)
     replace cc := lw_sp5 (b := Y44.heap.size) cc zz0 (.bool aw) (.bool ae) (.int .u64 al) (.int .u64 ah) (.slice p5 Xa.length c5)
     rw [show (((((Y56.setCell ⟨Y44.heap.size, 0, none⟩ (.bool aw)).setCell ⟨Y44.heap.size, 1, none⟩ (.bool ae)).setCell ⟨Y44.heap.size, 2, none⟩ (.int .u64 al)).setCell ⟨Y44.heap.size, 3, none⟩ (.int .u64 ah)).setCell ⟨Y44.heap.size, 4, none⟩ (.slice p5 Xa.length c5)) = set5 Y56 Y44.heap.size (.bool aw) (.bool ae) (.int .u64 al) (.int .u64 ah) (.slice p5 Xa.length c5) from rfl]
     generalize hY : set5 Y56 Y44.heap.size (.bool aw) (.bool ae) (.int .u64 al) (.int .u64 ah) (.slice p5 Xa.length c5) = Y57 at *
     clear hY
     refine hK.out _ _ (hall _ cc) (fun hH => ?_)
     clear hK K
     try simp only [Act.put, List.getElem_toArray, List.getElem_cons_zero, List.getElem_cons_succ, List.setIfInBounds_toArray, List.set_cons_zero, List.set_cons_succ]
     refine wpAnyH_ready (rs := [9]) (by kernel_rfl) (by simp) (AllReadyH.cons (o := _) rfl (fun K hK => ?_) AllReadyH.nil)
     obtain ⟨q_0, q_1, q_2, q_3, q_4, qf⟩ := lw_cells5 q1
     go_simp
     clear q_0 q_1 q_2 q_3 q_4 qf
     replace q0 := lw_far5 (b := Y0.heap.size) q0 (.bool bw) (.bool be) (.int .u64 bl) (.int .u64 bh) (.slice p6 Xb.length c6) (by first | assumption | exact Ne.symm (by assumption))
     replace q1 := lw_set5 q1 (.bool bw) (.bool be) (.int .u64 bl) (.int .u64 bh) (.slice p6 Xb.length c6)
     replace cc := lw_sp5 (b := Y0.heap.size) cc zz1 (.bool bw) (.bool be) (.int .u64 bl) (.int .u64 bh) (.slice p6 Xb.length c6)
     rw [show (((((Y57.setCell ⟨Y0.heap.size, 0, none⟩ (.bool bw)).setCell ⟨Y0.heap.size, 1, none⟩ (.bool be)).setCell ⟨Y0.heap.size, 2, none⟩ (.int .u64 bl)).setCell ⟨Y0.heap.size, 3, none⟩ (.int .u64 bh)).setCell ⟨Y0.heap.size, 4, none⟩ (.slice p6 Xb.length c6)) = set5 Y57 Y0.heap.size (.bool bw) (.bool be) (.int .u64 bl) (.int .u64 bh) (.slice p6 Xb.length c6) from rfl]
     generalize hY : set5 Y57 Y0.heap.size (.bool bw) (.bool be) (.int .u64 bl) (.int .u64 bh) (.slice p6 Xb.length c6) = Y58 at *
     clear hY
     refine hK.out _ _ (hall _ cc) (fun hH => ?_)
     clear hK K
     try simp only [Act.put, List.getElem_toArray, List.getElem_cons_zero, List.getElem_cons_succ, List.setIfInBounds_toArray, List.set_cons_zero, List.set_cons_succ]
     refine wpAnyH_done (by kernel_rfl) ?_ _
     go_wp2_with fail
     go_meet
     exact ⟨_, Y44.heap.size, Y0.heap.size, p5, c5, p6, c6, rfl, rfl, rfl, q0, q1, h5 _ (ta.on cc), h6 _ (tb.on cc), cc⟩
  case rest =>
   obtain ⟨W1, b5, b6, p5, c5, p6, c6, rfl, rfl, rfl, q5, q6, t5, t6, cX⟩ := hcut
   replace bW := sp_call bW cX
   replace r0_ := sO cX r0_; replace r1_ := sO cX r1_; replace r2_ := sO cX r2_
   clear cX cc a0 a1 a2 a3 a4 b0 b1 b2 b3 b4 kf kg ta tb
   obtain ⟨x0, x1, x2, x3, x4, _⟩ := lw_cells5 q5
   obtain ⟨y0, y1, y2, y3, y4, _⟩ := lw_cells5 q6
   clear q5 q6
   obtain ⟨p, hp⟩ : ∃ p, w.heap.size = p := ⟨_, rfl⟩
   rw [hp] at r0_ r1_ r2_
   go_upto_region 2 with fail
   (try rw [hp])
   have hall : ∀ X9, Below W1.heap.size W1 X9 → (X9.cell? ⟨p, 0, none⟩ = some (.bool r0) ∧ X9.cell? ⟨p, 1, none⟩ = some (.int .u64 r1) ∧ X9.cell? ⟨p, 2, none⟩ = some (.int .u64 r2) ∧ X9.cell? ⟨b5, 0, none⟩ = some (.bool aw) ∧ X9.cell? ⟨b5, 1, none⟩ = some (.bool ae) ∧ X9.cell? ⟨b5, 2, none⟩ = some (.int .u64 al) ∧ X9.cell? ⟨b5, 3, none⟩ = some (.int .u64 ah) ∧ X9.cell? ⟨b5, 4, none⟩ = some (.slice p5 Xa.length c5) ∧ X9.cell? ⟨b6, 0, none⟩ = some (.bool bw) ∧ X9.cell? ⟨b6, 1, none⟩ = some (.bool be) ∧ X9.cell? ⟨b6, 2, none⟩ = some (.int .u64 bl) ∧ X9.cell? ⟨b6, 3, none⟩ = some (.int .u64 bh) ∧ X9.cell? ⟨b6, 4, none⟩ = some (.slice p6 Xb.length c6)) := fun X9 g9 => ⟨sO g9 r0_, sO g9 r1_, sO g9 r2_, sO g9 x0, sO g9 x1, sO g9 x2, sO g9 x3, sO g9 x4, sO g9 y0, sO g9 y1, sO g9 y2, sO g9 y3, sO g9 y4⟩
   have cc : Below W1.heap.size W1 W1.drew := (Below.refl _ _).drew
   refine wp_region_held_drew (S := (fun w' => w'.cell? ⟨p, 0, none⟩ = some (.bool r0) ∧ w'.cell? ⟨p, 1, none⟩ = some (.int .u64 r1) ∧ w'.cell? ⟨p, 2, none⟩ = some (.int .u64 r2) ∧ w'.cell? ⟨b5, 0, none⟩ = some (.bool aw) ∧ w'.cell? ⟨b5, 1, none⟩ = some (.bool ae) ∧ w'.cell? ⟨b5, 2, none⟩ = some (.int .u64 al) ∧ w'.cell? ⟨b5, 3, none⟩ = some (.int .u64 ah) ∧ w'.cell? ⟨b5, 4, none⟩ = some (.slice p5 Xa.length c5) ∧ w'.cell? ⟨b6, 0, none⟩ = some (.bool bw) ∧ w'.cell? ⟨b6, 1, none⟩ = some (.bool be) ∧ w'.cell? ⟨b6, 2, none⟩ = some (.int .u64 bl) ∧ w'.cell? ⟨b6, 3, none⟩ = some (.int .u64 bh) ∧ w'.cell? ⟨b6, 4, none⟩ = some (.slice p6 Xb.length c6))) (by kernel_rfl) (hall _ cc) (fun hH => ?_)
   generalize hY : W1.drew = Y0 at *
   clear hY
   refine wpAnyH_ready (rs := [0]) (by kernel_rfl) (by simp) (AllReadyH.cons (o := _) rfl (fun K hK => ?_) AllReadyH.nil)
   go_simp
   refine (kl _).mono ?_
   rintro e Y1 ⟨rfl, g⟩
   replace cc := sp_call cc g
   clear g
   go_wp2_with fail
   refine hK.out _ _ (hall _ cc) (fun hH => ?_)
   clear hK K
   try simp only [Act.put, List.getElem_toArray, List.getElem_cons_zero, List.getElem_cons_succ, List.setIfInBounds_toArray, List.set_cons_zero, List.set_cons_succ]
   refine wpAnyH_take (i := 1) (oi := _) (v := .bool true) rfl (by kernel_rfl) (by kernel_rfl) (by kernel_rfl) (fun _ _ _ h => h) (Or.inl ⟨by rfl, fun w' hSw => by obtain ⟨zr0_, zr1_, zr2_, zx0, zx1, zx2, zx3, zx4, zy0, zy1, zy2, zy3, zy4⟩ := hSw; go_simp⟩) hH ?_
   simp only [Act.put, List.getElem_toArray, List.getElem_cons_zero, List.getElem_cons_succ, List.setIfInBounds_toArray, List.set_cons_zero, List.set_cons_succ]
   refine wpAnyH_take (i := 2) (oi := _) (v := .agg #[.bool r0, .int .u64 r1, .int .u64 r2]) rfl (by kernel_rfl) (by kernel_rfl) (by kernel_rfl) (fun _ _ _ h => h) (Or.inl ⟨by rfl, fun w' hSw => by obtain ⟨zr0_, zr1_, zr2_, zx0, zx1, zx2, zx3, zx4, zy0, zy1, zy2, zy3, zy4⟩ := hSw; go_simp⟩) hH ?_
   simp only [Act.put, List.getElem_toArray, List.getElem_cons_zero, List.getElem_cons_succ, List.setIfInBounds_toArray, List.set_cons_zero, List.set_cons_succ]
   refine wpAnyH_take (i := 4) (oi := _) (v := .agg #[.bool r0, .int .u64 r1, .int .u64 r2]) rfl (by kernel_rfl) (by kernel_rfl) (by kernel_rfl) (fun _ _ _ h => h) (Or.inl ⟨by rfl, fun w' hSw => by obtain ⟨zr0_, zr1_, zr2_, zx0, zx1, zx2, zx3, zx4, zy0, zy1, zy2, zy3, zy4⟩ := hSw; go_simp⟩) hH ?_
   simp only [Act.put, List.getElem_toArray, List.getElem_cons_zero, List.getElem_cons_succ, List.setIfInBounds_toArray, List.set_cons_zero, List.set_cons_succ]
   refine wpAnyH_ready (rs := [3]) (by kernel_rfl) (by simp) (AllReadyH.cons (o := _) rfl (fun K hK => ?_) AllReadyH.nil)
   go_simp
   refine (ko _).mono ?_
   rintro e Y2 ⟨rfl, g⟩
   replace cc := sp_call cc g
   clear g
   go_wp2_with fail
   refine hK.out _ _ (hall _ cc) (fun hH => ?_)
   clear hK K
   try simp only [Act.put, List.getElem_toArray, List.getElem_cons_zero, List.getElem_cons_succ, List.setIfInBounds_toArray, List.set_cons_zero, List.set_cons_succ]
   refine wpAnyH_ready (rs := [5]) (by kernel_rfl) (by simp) (AllReadyH.cons (o := _) rfl (fun K hK => ?_) AllReadyH.nil)
   go_simp
   refine (kp _).mono ?_
   rintro e Y3 ⟨rfl, g⟩
   replace cc := sp_call cc g
   clear g
   go_wp2_with fail
   refine hK.out _ _ (hall _ cc) (fun hH => ?_)
   clear hK K
   try simp only [Act.put, List.getElem_toArray, List.getElem_cons_zero, List.getElem_cons_succ, List.setIfInBounds_toArray, List.set_cons_zero, List.set_cons_succ]
   refine wpAnyH_ready (rs := [6]) (by kernel_rfl) (by simp) (AllReadyH.cons (o := _) rfl (fun K hK => ?_) AllReadyH.nil)
   go_simp
   refine (ks _).mono ?_
   rintro e Y4 ⟨rfl, g⟩
   replace cc := sp_call cc g
   clear g
   go_wp2_with fail
   refine hK.out _ _ (hall _ cc) (fun hH => ?_)
   clear hK K
   try simp only [Act.put, List.getElem_toArray, List.getElem_cons_zero, List.getElem_cons_succ, List.setIfInBounds_toArray, List.set_cons_zero, List.set_cons_succ]
   refine wpAnyH_take (i := 7) (oi := _) (v := .bool true) rfl (by kernel_rfl) (by kernel_rfl) (by kernel_rfl) (fun _ _ _ h => h) (Or.inl ⟨by rfl, fun w' hSw => by obtain ⟨zr0_, zr1_, zr2_, zx0, zx1, zx2, zx3, zx4, zy0, zy1, zy2, zy3, zy4⟩ := hSw; go_simp⟩) hH ?_
   simp only [Act.put, List.getElem_toArray, List.getElem_cons_zero, List.getElem_cons_succ, List.setIfInBounds_toArray, List.set_cons_zero, List.set_cons_succ]
   refine wpAnyH_take (i := 8) (oi := _) (v := .bool true) rfl (by kernel_rfl) (by kernel_rfl) (by kernel_rfl) (fun _ _ _ h => h) (Or.inl ⟨by rfl, fun w' hSw => by obtain ⟨zr0_, zr1_, zr2_, zx0, zx1, zx2, zx3, zx4, zy0, zy1, zy2, zy3, zy4⟩ := hSw; go_simp⟩) hH ?_
   simp only [Act.put, List.getElem_toArray, List.getElem_cons_zero, List.getElem_cons_succ, List.setIfInBounds_toArray, List.set_cons_zero, List.set_cons_succ]
   refine wpAnyH_take (i := 9) (oi := _) (v := .int .i64 n) rfl (by kernel_rfl) (by kernel_rfl) (by kernel_rfl) (fun _ _ _ h => h) (Or.inl ⟨by rfl, fun w' hSw => by obtain ⟨zr0_, zr1_, zr2_, zx0, zx1, zx2, zx3, zx4, zy0, zy1, zy2, zy3, zy4⟩ := hSw; go_simp⟩) hH ?_
   simp only [Act.put, List.getElem_toArray, List.getElem_cons_zero, List.getElem_cons_succ, List.setIfInBounds_toArray, List.set_cons_zero, List.set_cons_succ]
   refine wpAnyH_take (i := 11) (oi := _) (v := .int .i64 n) rfl (by kernel_rfl) (by kernel_rfl) (by kernel_rfl) (fun _ _ _ h => h) (Or.inl ⟨by rfl, fun w' hSw => by obtain ⟨zr0_, zr1_, zr2_, zx0, zx1, zx2, zx3, zx4, zy0, zy1, zy2, zy3, zy4⟩ := hSw; go_simp⟩) hH ?_
   simp only [Act.put, List.getElem_toArray, List.getElem_cons_zero, List.getElem_cons_succ, List.setIfInBounds_toArray, List.set_cons_zero, List.set_cons_succ]
   refine wpAnyH_ready (rs := [10]) (by kernel_rfl) (by simp) (AllReadyH.cons (o := _) rfl (fun K hK => ?_) AllReadyH.nil)
   go_simp
   refine (kv _).mono ?_
   rintro e Y5 ⟨⟨p7, c7, rfl, t7⟩, g⟩
   replace cc := sp_call cc g
   clear g
   go_wp2_with fail
   refine hK.out _ _ (hall _ cc) (fun hH => ?_)
   clear hK K
   try simp only [Act.put, List.getElem_toArray, List.getElem_cons_zero, List.getElem_cons_succ, List.setIfInBounds_toArray, List.set_cons_zero, List.set_cons_succ]
   refine wpAnyH_ready (rs := [12]) (by kernel_rfl) (by simp) (AllReadyH.cons (o := _) rfl (fun K hK => ?_) AllReadyH.nil)
   go_simp
   refine (ku _).mono ?_
   rintro e Y6 ⟨⟨p8, c8, rfl, t8⟩, g⟩
   replace t7 := t7.on g
   replace cc := sp_call cc g
   clear g
   go_wp2_with fail
   refine hK.out _ _ (hall _ cc) (fun hH => ?_)
   clear hK K
   try simp only [Act.put, List.getElem_toArray, List.getElem_cons_zero, List.getElem_cons_succ, List.setIfInBounds_toArray, List.set_cons_zero, List.set_cons_succ]
   refine wpAnyH_ready (rs := [13]) (by kernel_rfl) (by simp) (AllReadyH.cons (o := _) rfl (fun K hK => ?_) AllReadyH.nil)
   go_simp
   refine (kS _ _ _ t7 t8).mono ?_
   rintro e Y7 ⟨rfl, g⟩
   clear t7 t8
   replace cc := sp_call cc g
   clear g
   go_wp2_with fail
   refine hK.out _ _ (hall _ cc) (fun hH => ?_)
   clear hK K
   try simp only [Act.put, List.getElem_toArray, List.getElem_cons_zero, List.getElem_cons_succ, List.setIfInBounds_toArray, List.set_cons_zero, List.set_cons_succ]
   refine wpAnyH_take (i := 14) (oi := _) (v := .bool true) rfl (by kernel_rfl) (by kernel_rfl) (by kernel_rfl) (fun _ _ _ h => h) (Or.inl ⟨by rfl, fun w' hSw => by obtain ⟨zr0_, zr1_, zr2_, zx0, zx1, zx2, zx3, zx4, zy0, zy1, zy2, zy3, zy4⟩ := hSw; go_simp⟩) hH ?_
   simp only [Act.put, List.getElem_toArray, List.getElem_cons_zero, List.getElem_cons_succ, List.setIfInBounds_toArray, List.set_cons_zero, List.set_cons_succ]
   refine wpAnyH_take (i := 15) (oi := _) (v := .bool true) rfl (by kernel_rfl) (by kernel_rfl) (by kernel_rfl) (fun _ _ _ h => h) (Or.inl ⟨by rfl, fun w' hSw => by obtain ⟨zr0_, zr1_, zr2_, zx0, zx1, zx2, zx3, zx4, zy0, zy1, zy2, zy3, zy4⟩ := hSw; go_simp⟩) hH ?_
   simp only [Act.put, List.getElem_toArray, List.getElem_cons_zero, List.getElem_cons_succ, List.setIfInBounds_toArray, List.set_cons_zero, List.set_cons_succ]
   refine wpAnyH_take (i := 16) (oi := _) (v := .agg #[.bool aw, .bool ae, .int .u64 al, .int .u64 ah, .slice p5 Xa.length c5]) rfl (by kernel_rfl) (by kernel_rfl) (by kernel_rfl) (fun _ _ _ h => h) (Or.inl ⟨by rfl, fun w' hSw => by obtain ⟨zr0_, zr1_, zr2_, zx0, zx1, zx2, zx3, zx4, zy0, zy1, zy2, zy3, zy4⟩ := hSw; go_simp⟩) hH ?_
   simp only [Act.put, List.getElem_toArray, List.getElem_cons_zero, List.getElem_cons_succ, List.setIfInBounds_toArray, List.set_cons_zero, List.set_cons_succ]
   refine wpAnyH_take (i := 18) (oi := _) (v := .agg #[.bool aw, .bool ae, .int .u64 al, .int .u64 ah, .slice p5 Xa.length c5]) rfl (by kernel_rfl) (by kernel_rfl) (by kernel_rfl) (fun _ _ _ h => h) (Or.inl ⟨by rfl, fun w' hSw => by obtain ⟨zr0_, zr1_, zr2_, zx0, zx1, zx2, zx3, zx4, zy0, zy1, zy2, zy3, zy4⟩ := hSw; go_simp⟩) hH ?_
   simp only [Act.put, List.getElem_toArray, List.getElem_cons_zero, List.getElem_cons_succ, List.setIfInBounds_toArray, List.set_cons_zero, List.set_cons_succ]
   refine wpAnyH_ready (rs := [17]) (by kernel_rfl) (by simp) (AllReadyH.cons (o := _) rfl (fun K hK => ?_) AllReadyH.nil)
   go_simp
   refine (kr _ _ (t5.on cc)).mono ?_
   rintro e Y8 ⟨rfl, g⟩
   replace cc := sp_call cc g
   clear g
   go_wp2_with fail
   refine hK.out _ _ (hall _ cc) (fun hH => ?_)
   clear hK K
   try simp only [Act.put, List.getElem_toArray, List.getElem_cons_zero, List.getElem_cons_succ, List.setIfInBounds_toArray, List.set_cons_zero, List.set_cons_succ]
   refine wpAnyH_ready (rs := [19]) (by kernel_rfl) (by simp) (AllReadyH.cons (o := _) rfl (fun K hK => ?_) AllReadyH.nil)
   go_simp
   refine (kR _ _ (t5.on cc)).mono ?_
   rintro e Y9 ⟨⟨p9, c9, rfl, t9⟩, g⟩
   replace cc := sp_call cc g
   clear g
   go_wp2_with fail
   refine hK.out _ _ (hall _ cc) (fun hH => ?_)
   clear hK K
   try simp only [Act.put, List.getElem_toArray, List.getElem_cons_zero, List.getElem_cons_succ, List.setIfInBounds_toArray, List.set_cons_zero, List.set_cons_succ]
   refine wpAnyH_ready (rs := [20]) (by kernel_rfl) (by simp) (AllReadyH.cons (o := _) rfl (fun K hK => ?_) AllReadyH.nil)
   go_simp
   refine (kq _ _ t9).mono ?_
   rintro e Y10 ⟨rfl, g⟩
   clear t9
   replace cc := sp_call cc g
   clear g
   go_wp2_with fail
   refine hK.out _ _ (hall _ cc) (fun hH => ?_)
   clear hK K
   try simp only [Act.put, List.getElem_toArray, List.getElem_cons_zero, List.getElem_cons_succ, List.setIfInBounds_toArray, List.set_cons_zero, List.set_cons_succ]
   refine wpAnyH_take (i := 21) (oi := _) (v := .bool true) rfl (by kernel_rfl) (by kernel_rfl) (by kernel_rfl) (fun _ _ _ h => h) (Or.inl ⟨by rfl, fun w' hSw => by obtain ⟨zr0_, zr1_, zr2_, zx0, zx1, zx2, zx3, zx4, zy0, zy1, zy2, zy3, zy4⟩ := hSw; go_simp⟩) hH ?_
   simp only [Act.put, List.getElem_toArray, List.getElem_cons_zero, List.getElem_cons_succ, List.setIfInBounds_toArray, List.set_cons_zero, List.set_cons_succ]
   refine wpAnyH_take (i := 22) (oi := _) (v := .bool true) rfl (by kernel_rfl) (by kernel_rfl) (by kernel_rfl) (fun _ _ _ h => h) (Or.inl ⟨by rfl, fun w' hSw => by obtain ⟨zr0_, zr1_, zr2_, zx0, zx1, zx2, zx3, zx4, zy0, zy1, zy2, zy3, zy4⟩ := hSw; go_simp⟩) hH ?_
   simp only [Act.put, List.getElem_toArray, List.getElem_cons_zero, List.getElem_cons_succ, List.setIfInBounds_toArray, List.set_cons_zero, List.set_cons_succ]
   refine wpAnyH_take (i := 23) (oi := _) (v := .bool true) rfl (by kernel_rfl) (by kernel_rfl) (by kernel_rfl) (fun _ _ _ h => h) (Or.inl ⟨by rfl, fun w' hSw => by obtain ⟨zr0_, zr1_, zr2_, zx0, zx1, zx2, zx3, zx4, zy0, zy1, zy2, zy3, zy4⟩ := hSw; go_simp⟩) hH ?_
   simp only [Act.put, List.getElem_toArray, List.getElem_cons_zero, List.getElem_cons_succ, List.setIfInBounds_toArray, List.set_cons_zero, List.set_cons_succ]
   refine wpAnyH_take (i := 24) (oi := _) (v := .agg #[.bool aw, .bool ae, .int .u64 al, .int .u64 ah, .slice p5 Xa.length c5]) rfl (by kernel_rfl) (by kernel_rfl) (by kernel_rfl) (fun _ _ _ h => h) (Or.inl ⟨by rfl, fun w' hSw => by obtain ⟨zr0_, zr1_, zr2_, zx0, zx1, zx2, zx3, zx4, zy0, zy1, zy2, zy3, zy4⟩ := hSw; go_simp⟩) hH ?_
   simp only [Act.put, List.getElem_toArray, List.getElem_cons_zero, List.getElem_cons_succ, List.setIfInBounds_toArray, List.set_cons_zero, List.set_cons_succ]
   refine wpAnyH_take (i := 25) (oi := _) (v := .agg #[.bool bw, .bool be, .int .u64 bl, .int .u64 bh, .slice p6 Xb.length c6]) rfl (by kernel_rfl) (by kernel_rfl) (by kernel_rfl) (fun _ _ _ h => h) (Or.inl ⟨by rfl, fun w' hSw => by obtain ⟨zr0_, zr1_, zr2_, zx0, zx1, zx2, zx3, zx4, zy0, zy1, zy2, zy3, zy4⟩ := hSw; go_simp⟩) hH ?_
   simp only [Act.put, List.getElem_toArray, List.getElem_cons_zero, List.getElem_cons_succ, List.setIfInBounds_toArray, List.set_cons_zero, List.set_cons_succ]
   refine wpAnyH_take (i := 27) (oi := _) (v := .agg #[.bool aw, .bool ae, .int .u64 al, .int .u64 ah, .slice p5 Xa.length c5]) rfl (by kernel_rfl) (by kernel_rfl) (by kernel_rfl) (fun _ _ _ h => h) (Or.inl ⟨by rfl, fun w' hSw => by obtain ⟨zr0_, zr1_, zr2_, zx0, zx1, zx2, zx3, zx4, zy0, zy1, zy2, zy3, zy4⟩ := hSw; go_simp⟩) hH ?_
   simp only [Act.put, List.getElem_toArray, List.getElem_cons_zero, List.getElem_cons_succ, List.setIfInBounds_toArray, List.set_cons_zero, List.set_cons_succ]
   refine wpAnyH_take (i := 29) (oi := _) (v := .agg #[.bool bw, .bool be, .int .u64 bl, .int .u64 bh, .slice p6 Xb.length c6]) rfl (by kernel_rfl) (by kernel_rfl) (by kernel_rfl) (fun _ _ _ h => h) (Or.inl ⟨by rfl, fun w' hSw => by obtain ⟨zr0_, zr1_, zr2_, zx0, zx1, zx2, zx3, zx4, zy0, zy1, zy2, zy3, zy4⟩ := hSw; go_simp⟩) hH ?_
   simp only [Act.put, List.getElem_toArray, List.getElem_cons_zero, List.getElem_cons_succ, List.setIfInBounds_toArray, List.set_cons_zero, List.set_cons_succ]
   refine wpAnyH_ready (rs := [26]) (by kernel_rfl) (by simp) (AllReadyH.cons (o := _) rfl (fun K hK => ?_) AllReadyH.nil)
   go_simp
   refine (kz _ _ _ (t5.on cc) (t6.on cc)).mono ?_
   rintro e Y11 ⟨rfl, g⟩
   replace cc := sp_call cc g
   clear g
   go_wp2_with fail
   refine hK.out _ _ (hall _ cc) (fun hH => ?_)
   clear hK K
   try simp only [Act.put, List.getElem_toArray, List.getElem_cons_zero, List.getElem_cons_succ, List.setIfInBounds_toArray, List.set_cons_zero, List.set_cons_succ]
   refine wpAnyH_ready (rs := [28]) (by kernel_rfl) (by simp) (AllReadyH.cons (o := _) rfl (fun K hK => ?_) AllReadyH.nil)
   go_simp
   refine (kR _ _ (t5.on cc)).mono ?_
   rintro e Y12 ⟨⟨p9, c9, rfl, t9⟩, g⟩
   replace cc := sp_call cc g
   clear g
   go_wp2_with fail
   refine hK.out _ _ (hall _ cc) (fun hH => ?_)
   clear hK K
   try simp only [Act.put, List.getElem_toArray, List.getElem_cons_zero, List.getElem_cons_succ, List.setIfInBounds_toArray, List.set_cons_zero, List.set_cons_succ]
   refine wpAnyH_ready (rs := [30]) (by kernel_rfl) (by simp) (AllReadyH.cons (o := _) rfl (fun K hK => ?_) AllReadyH.nil)
   go_simp
   refine (kB _ _ (t6.on cc)).mono ?_
   rintro e Y13 ⟨⟨p10, c10, rfl, t10⟩, g⟩
   replace t9 := t9.on g
   replace cc := sp_call cc g
   clear g
   go_wp2_with fail
   refine hK.out _ _ (hall _ cc) (fun hH => ?_)
   clear hK K
   try simp only [Act.put, List.getElem_toArray, List.getElem_cons_zero, List.getElem_cons_succ, List.setIfInBounds_toArray, List.set_cons_zero, List.set_cons_succ]
   refine wpAnyH_ready (rs := [31]) (by kernel_rfl) (by simp) (AllReadyH.cons (o := _) rfl (fun K hK => ?_) AllReadyH.nil)
   go_simp
   refine (kw _ _ _ t9 t10).mono ?_
   rintro e Y14 ⟨rfl, g⟩
   clear t9 t10
   replace cc := sp_call cc g
   clear g
   go_wp2_with fail
   refine hK.out _ _ (hall _ cc) (fun hH => ?_)
   clear hK K
   try simp only [Act.put, List.getElem_toArray, List.getElem_cons_zero, List.getElem_cons_succ, List.setIfInBounds_toArray, List.set_cons_zero, List.set_cons_succ]
   refine wpAnyH_take (i := 32) (oi := _) (v := .bool true) rfl (by kernel_rfl) (by kernel_rfl) (by kernel_rfl) (fun _ _ _ h => h) (Or.inl ⟨by rfl, fun w' hSw => by obtain ⟨zr0_, zr1_, zr2_, zx0, zx1, zx2, zx3, zx4, zy0, zy1, zy2, zy3, zy4⟩ := hSw; go_simp⟩) hH ?_
   simp only [Act.put, List.getElem_toArray, List.getElem_cons_zero, List.getElem_cons_succ, List.setIfInBounds_toArray, List.set_cons_zero, List.set_cons_succ]
   refine wpAnyH_take (i := 33) (oi := _) (v := .bool true) rfl (by kernel_rfl) (by kernel_rfl) (by kernel_rfl) (fun _ _ _ h => h) (Or.inl ⟨by rfl, fun w' hSw => by obtain ⟨zr0_, zr1_, zr2_, zx0, zx1, zx2, zx3, zx4, zy0, zy1, zy2, zy3, zy4⟩ := hSw; go_simp⟩) hH ?_
   simp only [Act.put, List.getElem_toArray, List.getElem_cons_zero, List.getElem_cons_succ, List.setIfInBounds_toArray, List.set_cons_zero, List.set_cons_succ]
   refine wpAnyH_take (i := 34) (oi := _) (v := .bool true) rfl (by kernel_rfl) (by kernel_rfl) (by kernel_rfl) (fun _ _ _ h => h) (Or.inl ⟨by rfl, fun w' hSw => by obtain ⟨zr0_, zr1_, zr2_, zx0, zx1, zx2, zx3, zx4, zy0, zy1, zy2, zy3, zy4⟩ := hSw; go_simp⟩) hH ?_
   simp only [Act.put, List.getElem_toArray, List.getElem_cons_zero, List.getElem_cons_succ, List.setIfInBounds_toArray, List.set_cons_zero, List.set_cons_succ]
   refine wpAnyH_done (by kernel_rfl) ?_ _
   go_wp2_with fail
   go_ret
   exact ⟨rfl, by first | exact sp_call bW cc | (rw [← hp]; exact sp_call bW cc)⟩
end Go.Proofs.YteafnkimcidkhaaGreat

namespace Go.Proofs.YteafnkimcidkhaaGreat
set_option linter.unusedVariables false

/-! ### Sums and differences -/
/-! ### Moves -/
end Go.Proofs.YteafnkimcidkhaaGreat
namespace Go.Proofs.YteafnkimcidkhaaGreat
open Go.RowKit
set_option linter.unusedVariables false

end Go.Proofs.YteafnkimcidkhaaGreat
namespace Go.Proofs.YteafnkimcidkhaaGreat
open Go.RowKit
set_option linter.unusedVariables false

end Go.Proofs.YteafnkimcidkhaaGreat
namespace Go.Proofs.YteafnkimcidkhaaGreat
open Go.RowKit
set_option linter.unusedVariables false

end Go.Proofs.YteafnkimcidkhaaGreat
namespace Go.Proofs.YteafnkimcidkhaaGreat
open Go.RowKit
set_option linter.unusedVariables false

/-! ### The arithmetic of one round -/
end Go.Proofs.YteafnkimcidkhaaGreat
namespace Go.Proofs.YteafnkimcidkhaaGreat
open Go.RowKit
set_option linter.unusedVariables false

end Go.Proofs.YteafnkimcidkhaaGreat
namespace Go.Proofs.YteafnkimcidkhaaGreat
open Go.RowKit
set_option linter.unusedVariables false

/-! ### The number of bits -/
end Go.Proofs.YteafnkimcidkhaaGreat
namespace Go.Proofs.YteafnkimcidkhaaGreat
open Go.RowKit
set_option linter.unusedVariables false

end Go.Proofs.YteafnkimcidkhaaGreat
namespace Go.Proofs.YteafnkimcidkhaaGreat
open Go.RowKit
set_option linter.unusedVariables false

/-! ### One half of the quotient: a digit of 32 bits -/
end Go.Proofs.YteafnkimcidkhaaGreat
namespace Go.Proofs.YteafnkimcidkhaaGreat
set_option linter.unusedSimpArgs false
set_option linter.unusedVariables false
def divT (s : Bool) (m : Int) (b : Bool) (xw : Nat) (xe : Int) (yw : Nat) (ye : Int) : Int :=
  rnd s m b (2 * (xw * 2 ^ 130 / yw) + (decide (xw * 2 ^ 130 % yw ≠ 0)).toNat) (xe - ye - 131)
end Go.Proofs.YteafnkimcidkhaaGreat
namespace Go.Proofs.YteafnkimcidkhaaGreat
open Go.RowKit
set_option linter.unusedVariables false
set_option linter.unusedSimpArgs false
end Go.Proofs.YteafnkimcidkhaaGreat
namespace Go.Proofs.YteafnkimcidkhaaGreat
set_option linter.unusedVariables false
set_option linter.unusedSimpArgs false
end Go.Proofs.YteafnkimcidkhaaGreat
namespace Go.Proofs.YteafnkimcidkhaaGreat
open Go.RowKit
set_option linter.unusedVariables false
set_option linter.unusedSimpArgs false
end Go.Proofs.YteafnkimcidkhaaGreat
namespace Go.Proofs.YteafnkimcidkhaaGreat
open Go.RowKit
set_option linter.unusedVariables false
set_option linter.unusedSimpArgs false
end Go.Proofs.YteafnkimcidkhaaGreat
namespace Go.Proofs.YteafnkimcidkhaaGreat
open Go.RowKit
set_option linter.unusedVariables false
set_option linter.unusedSimpArgs false
end Go.Proofs.YteafnkimcidkhaaGreat
namespace Go.Proofs.YteafnkimcidkhaaGreat
open Go.RowKit
set_option linter.unusedVariables false
set_option linter.unusedSimpArgs false
end Go.Proofs.YteafnkimcidkhaaGreat

namespace Go.Proofs.YteafnkimcidkhaaGreat
open Go.RowKit
set_option linter.unusedVariables false
set_option linter.unusedSimpArgs false
end Go.Proofs.YteafnkimcidkhaaGreat
namespace Go.Proofs.YteafnkimcidkhaaGreat
open Go.RowKit
set_option linter.unusedVariables false
set_option linter.unusedSimpArgs false
end Go.Proofs.YteafnkimcidkhaaGreat
namespace Go.Proofs.YteafnkimcidkhaaGreat
open Go.RowKit
set_option linter.unusedVariables false
set_option linter.unusedSimpArgs false
end Go.Proofs.YteafnkimcidkhaaGreat
namespace Go.Proofs.YteafnkimcidkhaaGreat
open Go.RowKit
set_option linter.unusedVariables false
set_option linter.unusedSimpArgs false
end Go.Proofs.YteafnkimcidkhaaGreat
namespace Go.Proofs.YteafnkimcidkhaaGreat
open Go.RowKit
set_option linter.unusedVariables false
set_option linter.unusedSimpArgs false
end Go.Proofs.YteafnkimcidkhaaGreat
namespace Go.Proofs.YteafnkimcidkhaaGreat
open Go.RowKit
set_option linter.unusedVariables false
set_option linter.unusedSimpArgs false
def divF (s : Bool) (m a b : Int) : Int :=
  if (cls s a == 0 || cls s a == 5) || (cls s b == 0 || cls s b == 5) then fNan s
  else if (cls s a == 4 && cls s b == 4) || (cls s a == 1 && cls s b == 1) then fNan s
  else if cls s a == 4 || cls s b == 1 then sgnd s (sgn s a != sgn s b) (fI s)
  else if cls s b == 4 then sgnd s (sgn s a != sgn s b) 0
  else divT s m (sgn s a != sgn s b) (whl s a).toNat (pwr s a) (whl s b).toNat (pwr s b)
end Go.Proofs.YteafnkimcidkhaaGreat
namespace Go.Proofs.YteafnkimcidkhaaGreat
open Go.RowKit
set_option linter.unusedVariables false
set_option linter.unusedSimpArgs false
end Go.Proofs.YteafnkimcidkhaaGreat
namespace Go.Proofs.YteafnkimcidkhaaGreat
open Go.RowKit
set_option linter.unusedVariables false
set_option linter.unusedSimpArgs false
end Go.Proofs.YteafnkimcidkhaaGreat
namespace Go.Proofs.YteafnkimcidkhaaGreat
open Go.RowKit
set_option linter.unusedVariables false
set_option linter.unusedSimpArgs false
end Go.Proofs.YteafnkimcidkhaaGreat
namespace Go.Proofs.YteafnkimcidkhaaGreat
open Go.RowKit
set_option linter.unusedVariables false
set_option linter.unusedSimpArgs false
def subF (s : Bool) (m a b : Int) : Int := addF s m a (negF s b)
end Go.Proofs.YteafnkimcidkhaaGreat
namespace Go.Proofs.YteafnkimcidkhaaGreat
open Go.RowKit
set_option linter.unusedVariables false
set_option linter.unusedSimpArgs false
end Go.Proofs.YteafnkimcidkhaaGreat
namespace Go.Proofs.YteafnkimcidkhaaGreat
open Go.RowKit
set_option linter.unusedVariables false
set_option linter.unusedSimpArgs false
end Go.Proofs.YteafnkimcidkhaaGreat


namespace Go.Proofs.YteafnkimcidkhaaGreat
open Go.RowKit
set_option linter.unusedVariables false
set_option linter.unusedSimpArgs false
def gF (op : Int) (s : Bool) (x y : Int) : Int := if op = 8 then addF s 0 x y else if op = 9 then subF s 0 x y else if op = 10 then mulF s 0 x y else divF s 0 x y
end Go.Proofs.YteafnkimcidkhaaGreat


namespace Go.Proofs.YteafnkimcidkhaaGreat
open Go.RowKit
set_option linter.unusedVariables false
set_option linter.unusedSimpArgs false
theorem lj_append {P : Program} {o : Oper} {a : Act} {w : World} {K : Act → World → Prop} {Q : Exit → Act → World → Prop} (s x : Operand) (t : TypeId) (ho : o.op = .call { callee := .builtin .append, args := #[s, x], argTypes := #[t, t] }) (v1 v2 : Value) (hs : a.eval s = v1) (hx : a.eval x = v2) (v' : Value) (w' : World)
    (hr : (Builtin.append_ #[t, t] o.type #[v1, v2]).run P w = .ok v' w') (h : K (a.put o.dst v') w') : o.wp P a w K Q := by
  unfold Oper.wp execOp
  simp only [ho, resolve, invoke, builtin, Sem.run_bind, Sem.run_pure, Result.andThen_ok, List.map_toArray, List.map_cons, List.map_nil, hs, hx, hr]
  exact h
set_option maxRecDepth 100000 in
theorem rt_info : (Tryz.prog.info? 100).map (fun i => (i.zero, i.size, i.bytes)) = some (some (.agg #[.int .i64 0, .bool false, .int .u64 0, .int .u64 0]), 4, 32) := by kernel_rfl
set_option maxRecDepth 100000 in
theorem tixT (b o m c j : Nat) (hj : j < m) (w : World) : (Instr.indexAt 29 (.slice (some ⟨b, o, none⟩) m c) (.int .i64 j)).run Tryz.prog w = .ok (.pointer (some ⟨b, o + j * 4, none⟩)) w := by
  have e2 : ∀ w, (sizeOf (Tryz.prog.elem 29)).run Tryz.prog w = .ok 4 w := fun w => by kernel_rfl
  rw [run_indexAt_slice (h := by first | exact Tryz.underlying29 | rfl), if_pos ⟨by omega, by omega⟩, e2]
  simp [go_sem]
set_option maxRecDepth 100000 in
theorem tixR (b o m c j : Nat) (hj : j < m) (w : World) : (Instr.indexAt 36 (.slice (some ⟨b, o, none⟩) m c) (.int .i64 j)).run Tryz.prog w = .ok (.pointer (some ⟨b, o + j * 4, none⟩)) w := by
  have e2 : ∀ w, (sizeOf (Tryz.prog.elem 36)).run Tryz.prog w = .ok 4 w := fun w => by kernel_rfl
  rw [run_indexAt_slice (h := by first | exact Tryz.underlying36 | rfl), if_pos ⟨by omega, by omega⟩, e2]
  simp [go_sem]
structure RefI (w : World) (p : Nat) (x0 x1 : Bool) (x2 x3 : Int) (ls : List (Int × Bool × Int × Int)) (va : Value) (j : Nat) (v : Value) (V : World) : Prop where
  a4 : V.cell? ⟨p, 4, none⟩ = some va
  q : V.heap[p + 1 + 1]? = some (.cells #[.bool x0, .bool x1, .int .u64 x2, .int .u64 x3, v] 38 (0, 0))
  r : V.heap[p + 1]? = some (.cells #[.bool false, .bool false, .int .u64 0, .int .u64 0, .slice none 0 0] 38 (0, 0))
  own : V.ownsRow (p + 3) 100 4 v j (tcs (ls.take j))
  bel : Below w.heap.size w V
  siz : p + 3 ≤ V.heap.size
theorem RefI.on {w : World} {p : Nat} {x0 x1 : Bool} {x2 x3 : Int} {ls : List (Int × Bool × Int × Int)} {va : Value} {j : Nat} {v : Value} {V V' : World} (h : RefI w p x0 x1 x2 x3 ls va j v V) (g : Below V.heap.size V V') : RefI w p x0 x1 x2 x3 ls va j v V' :=
  ⟨sO g h.a4, carryF g h.q, carryF g h.r, lo_on g h.own, sp_call h.bel g, Nat.le_trans h.siz g.size⟩
theorem lj_c5 {V : World} {b : Nat} {t : TypeId} {x0 x1 x2 x3 x4 : Value} (q : V.heap[b]? = some (.cells #[x0, x1, x2, x3, x4] t (0, 0))) : V.cell? ⟨b, 0, none⟩ = some x0 ∧ V.cell? ⟨b, 1, none⟩ = some x1 ∧ V.cell? ⟨b, 2, none⟩ = some x2 ∧ V.cell? ⟨b, 3, none⟩ = some x3 ∧ V.cell? ⟨b, 4, none⟩ = some x4 ∧ ∀ j, V.frozen? ⟨b, j, none⟩ = false :=
  ⟨by simp [World.cell?, q], by simp [World.cell?, q], by simp [World.cell?, q], by simp [World.cell?, q], by simp [World.cell?, q], fun j => by simp [World.frozen?, q]⟩
set_option maxRecDepth 100000 in
set_option maxHeartbeats 6400000 in
theorem rref9 (A : Frm) (va : Value) (hl : A.2.2.length ≤ 400) (w : World) (ta : TAt w va A.2.2) :
    Calls Tryz.prog 26 #[.agg #[.bool A.1, .bool A.2.1.1, .int .u64 A.2.1.2.1, .int .u64 A.2.1.2.2, va]] w fun e w' => Told A w.heap.size e w' ∧ Below w.heap.size w w' := by
  obtain ⟨i0, hi, hz0, hz1, hz2⟩ : ∃ i, Tryz.prog.info? 100 = some i ∧ i.zero = some (.agg #[.int .i64 0, .bool false, .int .u64 0, .int .u64 0]) ∧ i.size = 4 ∧ i.bytes = 32 := by
    have h := rt_info
    cases hq : Tryz.prog.info? 100 with
    | none => rw [hq] at h; cases h
    | some i => rw [hq] at h; simp only [Option.map_some, Option.some.injEq, Prod.mk.injEq] at h; exact ⟨i, rfl, h.1, h.2.1, h.2.2⟩
  obtain ⟨pa, ca, rfl⟩ := ta.len
  obtain ⟨p, hp⟩ : ∃ p, w.heap.size = p := ⟨_, rfl⟩
  obtain ⟨x0, hx0⟩ : ∃ x, A.1 = x := ⟨_, rfl⟩
  obtain ⟨x1, hx1⟩ : ∃ x, A.2.1.1 = x := ⟨_, rfl⟩
  obtain ⟨x2, hx2⟩ : ∃ x, A.2.1.2.1 = x := ⟨_, rfl⟩
  obtain ⟨x3, hx3⟩ : ∃ x, A.2.1.2.2 = x := ⟨_, rfl⟩
  rw [hx0, hx1, hx2, hx3]
  go_enter Tryz.func26, Tryz.ntmps26
  go_upto_region 1 with fail
  obtain ⟨W0, hW⟩ : ∃ W, (w.alloc (.cells #[.bool x0, .bool x1, .int .u64 x2, .int .u64 x3, .slice pa A.2.2.length ca] 31)).alloc (.cells #[.bool false, .bool false, .int .u64 0, .int .u64 0, .slice none 0 0] 38) = W := ⟨_, rfl⟩
  have gW : Below w.heap.size w W0 := by rw [← hW]; exact sp_new (sp_new (Below.refl _ _) _) _
  have a0 : W0.cell? ⟨p, 0, none⟩ = some (.bool x0) := by rw [← hW, ← hp]; simp [go_sem]
  have a1 : W0.cell? ⟨p, 1, none⟩ = some (.bool x1) := by rw [← hW, ← hp]; simp [go_sem]
  have a2 : W0.cell? ⟨p, 2, none⟩ = some (.int .u64 x2) := by rw [← hW, ← hp]; simp [go_sem]
  have a3 : W0.cell? ⟨p, 3, none⟩ = some (.int .u64 x3) := by rw [← hW, ← hp]; simp [go_sem]
  have a4 : W0.cell? ⟨p, 4, none⟩ = some (.slice pa A.2.2.length ca) := by rw [← hW, ← hp]; simp [go_sem]
  have qr : W0.heap[p + 1]? = some (.cells #[.bool false, .bool false, .int .u64 0, .int .u64 0, .slice none 0 0] 38 (0, 0)) := by
    have := World.alloc_heap_new (w.alloc (.cells #[.bool x0, .bool x1, .int .u64 x2, .int .u64 x3, .slice pa A.2.2.length ca] 31)) (.cells #[.bool false, .bool false, .int .u64 0, .int .u64 0, .slice none 0 0] 38)
    rw [hW] at this
    rw [← hp]
    simpa using this
  have zW : W0.heap.size = p + 1 + 1 := by rw [← hW, ← hp]; simp
  rw [hW]
  clear hW
  (try rw [hp])
  go_upto_region 2 with fail
  obtain ⟨ls, hls⟩ : ∃ ls, A.2.2 = ls := ⟨_, rfl⟩
  rw [hls] at ta hl a4
  (try rw [hls])
  obtain ⟨V0, hV⟩ : ∃ V, W0.alloc (.cells #[.bool x0, .bool x1, .int .u64 x2, .int .u64 x3, .slice none 0 0] 38) = V := ⟨_, rfl⟩
  have hI : RefI w p x0 x1 x2 x3 ls (.slice pa ls.length ca) 0 (.slice none 0 0) V0 := by
    have gN : Below W0.heap.size W0 V0 := by rw [← hV]; exact sp_new (Below.refl _ _) _
    refine ⟨sO gN a4, ?_, carryF gN qr, World.ownsRow_nil _ _ _ _, sp_call gW gN, ?_⟩
    · have := World.alloc_heap_new W0 (.cells #[.bool x0, .bool x1, .int .u64 x2, .int .u64 x3, .slice none 0 0] 38)
      rw [hV, zW] at this
      exact this
    · rw [← hV]; simp; omega
  have told : Hid (∀ V v, TAt V v ls → Up w.heap.size v → Told A w.heap.size (.returned (.agg #[.bool x0, .bool x1, .int .u64 x2, .int .u64 x3, v])) V) := fun V v h hu => ⟨v, by rw [hx0, hx1, hx2, hx3], by rw [hls]; exact h, hu⟩
  obtain ⟨len, hlen⟩ : ∃ len, ls.length = len := ⟨_, rfl⟩
  rw [hlen] at hI
  (try rw [hlen])
  have hlen' : Hid (ls.length = len) := hlen
  have ta' : Hid (TAt w (.slice pa len ca) ls) := by rw [← hlen]; exact ta
  have l4 : len ≤ 400 := by omega
  rw [hV]
  clear hV a0 a1 a2 a3 a4 qr gW zW hx0 hx1 hx2 hx3 hls hlen ta hl
  go_wp2_with fail
  go_loopw [4] (fun i wr => ∃ (V : World) (j : Nat) (v : Value), V = wr ∧ i = .int .i64 j ∧ j ≤ len ∧ Hid (RefI w p x0 x1 x2 x3 ls (.slice pa len ca) j v V)) (fun i _ => len - (intOf i).toNat)
  case atStart => exact ⟨_, 0, _, rfl, rfl, by omega, hI⟩
  case round =>
    clear hI
    obtain ⟨V, j, v, rfl, rfl, hj, hI⟩ := hrel
    have a4 := hI.out.a4
    by_cases cj : j < len
    case pos =>
      have cj' : (j : Int) < (len : Int) := by omega
      have wj : IntKind.i64.wrap ((j : Int) + 1) = ((j + 1 : Nat) : Int) := by rw [IntKind.wrap_i64]; omega
      obtain ⟨t, ht⟩ : ∃ t, ls[j]? = some t := ⟨_, List.getElem?_eq_getElem (by rw [hlen'.out]; exact cj)⟩
      obtain ⟨b, o, cap, hva, hbp, hc0⟩ : ∃ (b o cap : Nat), Value.slice pa len ca = .slice (some ⟨b, o, none⟩) len cap ∧ b < p ∧ (w.cell? ⟨b, o + j * 4, none⟩ = some (.int .i64 t.1) ∧ w.cell? ⟨b, o + j * 4 + 1, none⟩ = some (.bool t.2.1) ∧ w.cell? ⟨b, o + j * 4 + 2, none⟩ = some (.int .u64 t.2.2.1) ∧ w.cell? ⟨b, o + j * 4 + 3, none⟩ = some (.int .u64 t.2.2.2)) := by
        rcases ta'.out with ⟨_, h⟩ | ⟨b, o, cap, h1, h2, h3⟩
        · have := hlen'.out; rw [h] at this; simp at this; omega
        · have c := h3 j t ht
          rw [hlen'.out] at h1
          exact ⟨b, o, cap, h1, by rw [← hp]; exact World.block_lt_of_cell? w _ c.1, c⟩
      cases hva
      obtain ⟨t0, t1, t2, t3⟩ := t
      dsimp only at hc0
      have hall0 : ∀ X9, Below w.heap.size w X9 → (X9.cell? ⟨b, o + j * 4, none⟩ = some (.int .i64 t0) ∧ X9.cell? ⟨b, o + j * 4 + 1, none⟩ = some (.bool t1) ∧ X9.cell? ⟨b, o + j * 4 + 2, none⟩ = some (.int .u64 t2) ∧ X9.cell? ⟨b, o + j * 4 + 3, none⟩ = some (.int .u64 t3)) := fun X9 g => ⟨sO g hc0.1, sO g hc0.2.1, sO g hc0.2.2.1, sO g hc0.2.2.2⟩
      have ix := tixT b o len ca j cj
      have hall0' : Hid (∀ X9, Below w.heap.size w X9 → (X9.cell? ⟨b, o + j * 4, none⟩ = some (.int .i64 t0) ∧ X9.cell? ⟨b, o + j * 4 + 1, none⟩ = some (.bool t1) ∧ X9.cell? ⟨b, o + j * 4 + 2, none⟩ = some (.int .u64 t2) ∧ X9.cell? ⟨b, o + j * 4 + 3, none⟩ = some (.int .u64 t3))) := hall0
      have snoc : Hid (tcs (ls.take (j + 1)) = tcs (ls.take j) ++ [.int .i64 t0, .bool t1, .int .u64 t2, .int .u64 t3]) := by
        rw [List.take_add_one, ht, Option.toList_some, tcs_app]
        rfl
      clear hall0 hc0 ht
      go_upto_region 5 with fail
      have hSS : ∀ X9, Below w.heap.size w X9 → X9.cell? ⟨p, 4, none⟩ = some (.slice (some ⟨b, o, none⟩) len ca) → (X9.cell? ⟨p, 4, none⟩ = some (.slice (some ⟨b, o, none⟩) len ca) ∧ X9.cell? ⟨b, o + j * 4, none⟩ = some (.int .i64 t0) ∧ X9.cell? ⟨b, o + j * 4 + 1, none⟩ = some (.bool t1) ∧ X9.cell? ⟨b, o + j * 4 + 2, none⟩ = some (.int .u64 t2) ∧ X9.cell? ⟨b, o + j * 4 + 3, none⟩ = some (.int .u64 t3)) := fun X9 g h4 => ⟨h4, hall0'.out X9 g⟩
      have hS : ∀ X9, Below V.heap.size V X9 → (X9.cell? ⟨p, 4, none⟩ = some (.slice (some ⟨b, o, none⟩) len ca) ∧ X9.cell? ⟨b, o + j * 4, none⟩ = some (.int .i64 t0) ∧ X9.cell? ⟨b, o + j * 4 + 1, none⟩ = some (.bool t1) ∧ X9.cell? ⟨b, o + j * 4 + 2, none⟩ = some (.int .u64 t2) ∧ X9.cell? ⟨b, o + j * 4 + 3, none⟩ = some (.int .u64 t3)) := fun X9 g => ⟨sO g a4, hall0'.out X9 (sp_call hI.out.bel g)⟩
      have gY : Below V.heap.size V V.drew := (Below.refl _ _).drew
      refine wp_region_held_drew (S := (fun w' => w'.cell? ⟨p, 4, none⟩ = some (.slice (some ⟨b, o, none⟩) len ca) ∧ w'.cell? ⟨b, o + j * 4, none⟩ = some (.int .i64 t0) ∧ w'.cell? ⟨b, o + j * 4 + 1, none⟩ = some (.bool t1) ∧ w'.cell? ⟨b, o + j * 4 + 2, none⟩ = some (.int .u64 t2) ∧ w'.cell? ⟨b, o + j * 4 + 3, none⟩ = some (.int .u64 t3))) (by kernel_rfl) (hS _ gY) (fun hH => ?_)
      refine wpAnyH_take (i := 0) (oi := _) (v := .pointer (some ⟨p + 1 + 1, 4, none⟩)) rfl (by kernel_rfl) (by kernel_rfl) (by kernel_rfl) (fun _ _ _ h => h) (Or.inl ⟨by rfl, fun w' hSw => by obtain ⟨za4, zc0, zc1, zc2, zc3⟩ := hSw; go_simp⟩) hH ?_
      simp only [Act.put, List.getElem_toArray, List.getElem_cons_zero, List.getElem_cons_succ, List.setIfInBounds_toArray, List.set_cons_zero, List.set_cons_succ]
      refine wpAnyH_take (i := 2) (oi := _) (v := .pointer (some ⟨p, 4, none⟩)) rfl (by kernel_rfl) (by kernel_rfl) (by kernel_rfl) (fun _ _ _ h => h) (Or.inl ⟨by rfl, fun w' hSw => by obtain ⟨za4, zc0, zc1, zc2, zc3⟩ := hSw; go_simp⟩) hH ?_
      simp only [Act.put, List.getElem_toArray, List.getElem_cons_zero, List.getElem_cons_succ, List.setIfInBounds_toArray, List.set_cons_zero, List.set_cons_succ]
      refine wpAnyH_take (i := 3) (oi := _) (v := .slice (some ⟨b, o, none⟩) len ca) rfl (by kernel_rfl) (by kernel_rfl) (by kernel_rfl) (fun _ _ _ h => h) (Or.inl ⟨by rfl, fun w' hSw => by obtain ⟨za4, zc0, zc1, zc2, zc3⟩ := hSw; go_simp⟩) hH ?_
      simp only [Act.put, List.getElem_toArray, List.getElem_cons_zero, List.getElem_cons_succ, List.setIfInBounds_toArray, List.set_cons_zero, List.set_cons_succ]
      refine wpAnyH_take (i := 4) (oi := _) (v := .int .i64 j) rfl (by kernel_rfl) (by kernel_rfl) (by kernel_rfl) (fun _ _ _ h => h) (Or.inl ⟨by rfl, fun w' hSw => by obtain ⟨za4, zc0, zc1, zc2, zc3⟩ := hSw; go_simp⟩) hH ?_
      simp only [Act.put, List.getElem_toArray, List.getElem_cons_zero, List.getElem_cons_succ, List.setIfInBounds_toArray, List.set_cons_zero, List.set_cons_succ]
      refine wpAnyH_take (i := 5) (oi := _) (v := .pointer (some ⟨b, o + j * 4, none⟩)) rfl (by kernel_rfl) (by kernel_rfl) (by kernel_rfl) (fun _ _ _ h => h) (Or.inl ⟨by rfl, fun w' hSw => by obtain ⟨za4, zc0, zc1, zc2, zc3⟩ := hSw; go_simp⟩) hH ?_
      simp only [Act.put, List.getElem_toArray, List.getElem_cons_zero, List.getElem_cons_succ, List.setIfInBounds_toArray, List.set_cons_zero, List.set_cons_succ]
      refine wpAnyH_take (i := 6) (oi := _) (v := .pointer (some ⟨b, o + j * 4, none⟩)) rfl (by kernel_rfl) (by kernel_rfl) (by kernel_rfl) (fun _ _ _ h => h) (Or.inl ⟨by rfl, fun w' hSw => by obtain ⟨za4, zc0, zc1, zc2, zc3⟩ := hSw; go_simp⟩) hH ?_
      simp only [Act.put, List.getElem_toArray, List.getElem_cons_zero, List.getElem_cons_succ, List.setIfInBounds_toArray, List.set_cons_zero, List.set_cons_succ]
      refine wpAnyH_take (i := 7) (oi := _) (v := .int .i64 t0) rfl (by kernel_rfl) (by kernel_rfl) (by kernel_rfl) (fun _ _ _ h => h) (Or.inl ⟨by rfl, fun w' hSw => by obtain ⟨za4, zc0, zc1, zc2, zc3⟩ := hSw; go_simp⟩) hH ?_
      simp only [Act.put, List.getElem_toArray, List.getElem_cons_zero, List.getElem_cons_succ, List.setIfInBounds_toArray, List.set_cons_zero, List.set_cons_succ]
      refine wpAnyH_take (i := 8) (oi := _) (v := .pointer (some ⟨p, 4, none⟩)) rfl (by kernel_rfl) (by kernel_rfl) (by kernel_rfl) (fun _ _ _ h => h) (Or.inl ⟨by rfl, fun w' hSw => by obtain ⟨za4, zc0, zc1, zc2, zc3⟩ := hSw; go_simp⟩) hH ?_
      simp only [Act.put, List.getElem_toArray, List.getElem_cons_zero, List.getElem_cons_succ, List.setIfInBounds_toArray, List.set_cons_zero, List.set_cons_succ]
      refine wpAnyH_take (i := 9) (oi := _) (v := .slice (some ⟨b, o, none⟩) len ca) rfl (by kernel_rfl) (by kernel_rfl) (by kernel_rfl) (fun _ _ _ h => h) (Or.inl ⟨by rfl, fun w' hSw => by obtain ⟨za4, zc0, zc1, zc2, zc3⟩ := hSw; go_simp⟩) hH ?_
      simp only [Act.put, List.getElem_toArray, List.getElem_cons_zero, List.getElem_cons_succ, List.setIfInBounds_toArray, List.set_cons_zero, List.set_cons_succ]
      refine wpAnyH_take (i := 10) (oi := _) (v := .int .i64 j) rfl (by kernel_rfl) (by kernel_rfl) (by kernel_rfl) (fun _ _ _ h => h) (Or.inl ⟨by rfl, fun w' hSw => by obtain ⟨za4, zc0, zc1, zc2, zc3⟩ := hSw; go_simp⟩) hH ?_
      simp only [Act.put, List.getElem_toArray, List.getElem_cons_zero, List.getElem_cons_succ, List.setIfInBounds_toArray, List.set_cons_zero, List.set_cons_succ]
      refine wpAnyH_take (i := 11) (oi := _) (v := .pointer (some ⟨b, o + j * 4, none⟩)) rfl (by kernel_rfl) (by kernel_rfl) (by kernel_rfl) (fun _ _ _ h => h) (Or.inl ⟨by rfl, fun w' hSw => by obtain ⟨za4, zc0, zc1, zc2, zc3⟩ := hSw; go_simp⟩) hH ?_
      simp only [Act.put, List.getElem_toArray, List.getElem_cons_zero, List.getElem_cons_succ, List.setIfInBounds_toArray, List.set_cons_zero, List.set_cons_succ]
      refine wpAnyH_take (i := 12) (oi := _) (v := .pointer (some ⟨b, o + j * 4 + 1, none⟩)) rfl (by kernel_rfl) (by kernel_rfl) (by kernel_rfl) (fun _ _ _ h => h) (Or.inl ⟨by rfl, fun w' hSw => by obtain ⟨za4, zc0, zc1, zc2, zc3⟩ := hSw; go_simp⟩) hH ?_
      simp only [Act.put, List.getElem_toArray, List.getElem_cons_zero, List.getElem_cons_succ, List.setIfInBounds_toArray, List.set_cons_zero, List.set_cons_succ]
      refine wpAnyH_take (i := 13) (oi := _) (v := .agg #[.bool t1, .int .u64 t2, .int .u64 t3]) rfl (by kernel_rfl) (by kernel_rfl) (by kernel_rfl) (fun _ _ _ h => h) (Or.inl ⟨by rfl, fun w' hSw => by obtain ⟨za4, zc0, zc1, zc2, zc3⟩ := hSw; go_simp⟩) hH ?_
      simp only [Act.put, List.getElem_toArray, List.getElem_cons_zero, List.getElem_cons_succ, List.setIfInBounds_toArray, List.set_cons_zero, List.set_cons_succ]
      refine wpAnyH_take (i := 14) (oi := _) (v := .agg #[.int .i64 t0, .bool t1, .int .u64 t2, .int .u64 t3]) rfl (by kernel_rfl) (by kernel_rfl) (by kernel_rfl) (fun _ _ _ h => h) (Or.inl ⟨by rfl, fun w' hSw => by obtain ⟨za4, zc0, zc1, zc2, zc3⟩ := hSw; go_simp⟩) hH ?_
      simp only [Act.put, List.getElem_toArray, List.getElem_cons_zero, List.getElem_cons_succ, List.setIfInBounds_toArray, List.set_cons_zero, List.set_cons_succ]
      replace hI : Hid (RefI w p x0 x1 x2 x3 ls (.slice (some ⟨b, o, none⟩) len ca) j v V.drew) := hI.out.on gY
      replace hS : ∀ X9, Below V.drew.heap.size V.drew X9 → _ := fun X9 g => hS X9 (sp_call gY g)
      clear gY a4
      generalize hY : V.drew = Y0 at *
      clear hY
      have gY : Below Y0.heap.size Y0 Y0 := Below.refl _ _
      refine wpAnyH_ready (rs := [1, 15]) (by kernel_rfl) (by simp) (AllReadyH.cons (o := _) rfl (fun K hK => ?_) (AllReadyH.cons (o := _) rfl (fun K hK => ?_) AllReadyH.nil))
      obtain ⟨q0, q1, q2, q3, q4, qf⟩ := lj_c5 hI.out.q
      go_simp
      clear q0 q1 q2 q3 q4 qf
      refine hK.out _ _ (hS _ gY) (fun hH => ?_)
      clear hK K
      try simp only [Act.put, List.getElem_toArray, List.getElem_cons_zero, List.getElem_cons_succ, List.setIfInBounds_toArray, List.set_cons_zero, List.set_cons_succ]
      refine wpAnyH_ready (rs := [15]) (by kernel_rfl) (by simp) (AllReadyH.cons (o := _) rfl (fun K hK => ?_) AllReadyH.nil)
      go_simp
      obtain ⟨Y1, hY1⟩ : ∃ Y1, Y0.alloc (.cells #[.int .i64 t0, .bool t1, .int .u64 t2, .int .u64 t3] 100) = Y1 := ⟨_, rfl⟩
      have g1 : Below Y0.heap.size Y0 Y1 := by rw [← hY1]; exact sp_new (Below.refl _ _) _
      have hn : ∀ k u, [Value.int .i64 t0, .bool t1, .int .u64 t2, .int .u64 t3][k]? = some u → Y1.cell? ((⟨Y0.heap.size, 0, none⟩ : Addr).add k) = some u := by rw [← hY1]; exact term_cell _ _ _ _ _ _
      rw [hY1]
      clear hY1
      replace hI : Hid (RefI w p x0 x1 x2 x3 ls (.slice (some ⟨b, o, none⟩) len ca) j v Y1) := hI.out.on g1
      replace gY := sp_call gY g1
      clear g1
      refine hK.out _ _ (hS _ gY) (fun hH => ?_)
      clear hK K
      try simp only [Act.put, List.getElem_toArray, List.getElem_cons_zero, List.getElem_cons_succ, List.setIfInBounds_toArray, List.set_cons_zero, List.set_cons_succ]
      rotate_left
      go_simp
      obtain ⟨Y1, hY1⟩ : ∃ Y1, Y0.alloc (.cells #[.int .i64 t0, .bool t1, .int .u64 t2, .int .u64 t3] 100) = Y1 := ⟨_, rfl⟩
      have g1 : Below Y0.heap.size Y0 Y1 := by rw [← hY1]; exact sp_new (Below.refl _ _) _
      have hn : ∀ k u, [Value.int .i64 t0, .bool t1, .int .u64 t2, .int .u64 t3][k]? = some u → Y1.cell? ((⟨Y0.heap.size, 0, none⟩ : Addr).add k) = some u := by rw [← hY1]; exact term_cell _ _ _ _ _ _
      rw [hY1]
      clear hY1
      replace hI : Hid (RefI w p x0 x1 x2 x3 ls (.slice (some ⟨b, o, none⟩) len ca) j v Y1) := hI.out.on g1
      replace gY := sp_call gY g1
      clear g1
      refine hK.out _ _ (hS _ gY) (fun hH => ?_)
      clear hK K
      try simp only [Act.put, List.getElem_toArray, List.getElem_cons_zero, List.getElem_cons_succ, List.setIfInBounds_toArray, List.set_cons_zero, List.set_cons_succ]
      refine wpAnyH_ready (rs := [1]) (by kernel_rfl) (by simp) (AllReadyH.cons (o := _) rfl (fun K hK => ?_) AllReadyH.nil)
      obtain ⟨q0, q1, q2, q3, q4, qf⟩ := lj_c5 hI.out.q
      go_simp
      clear q0 q1 q2 q3 q4 qf
      refine hK.out _ _ (hS _ gY) (fun hH => ?_)
      clear hK K
      try simp only [Act.put, List.getElem_toArray, List.getElem_cons_zero, List.getElem_cons_succ, List.setIfInBounds_toArray, List.set_cons_zero, List.set_cons_succ]
      all_goals
        refine wpAnyH_ready (rs := [16]) (by kernel_rfl) (by simp) (AllReadyH.cons (o := _) rfl (fun K hK => ?_) AllReadyH.nil)
        have hJ := hI.out
        obtain ⟨v', Y2, hr, ow, gr, _, at_⟩ := run_append_own_at (P := Tryz.prog) (w := Y1) (p + 3) 36 36 100 i0 (.agg #[.int .i64 0, .bool false, .int .u64 0, .int .u64 0]) 4 32 Tryz.underlying36 hi hz0 hz1 hz2 (by rfl) (by omega) v j _ hJ.own ⟨Y0.heap.size, 0, none⟩ 1 1 [.int .i64 t0, .bool t1, .int .u64 t2, .int .u64 t3] (by simp) hn (term_one _ _ _ _) (by unfold maxLen; omega) (by omega) hJ.siz
        refine Eq.mpr (if_pos (by rfl)) ?_
        refine lj_append (.tmp 18) (.tmp 32) 36 rfl _ _ rfl rfl _ _ hr ?_
        obtain ⟨g4, cap4, rfl⟩ : ∃ g cap, v' = .slice (some ⟨g, 0, none⟩) (j + 1) cap := by
          rcases ow.2 with ⟨_, k⟩ | ⟨g, cap, cur, rfl, _⟩
          · omega
          · exact ⟨g, cap, rfl⟩
        have ob : ∀ k, v.ownBlock = some k → p + 3 ≤ k := fun k hk => (hJ.own.lt k hk).1
        have nb : some (p + 1 + 1) ≠ v.ownBlock := fun e => by have := ob _ e.symm; omega
        have c2 : Below w.heap.size w Y2 := hJ.bel.grown gr (by have := hJ.bel.size; omega) (fun k hk => by have := ob k hk; omega)
        have hq : Y2.heap[p + 1 + 1]? = some (.cells #[.bool x0, .bool x1, .int .u64 x2, .int .u64 x3, v] 38 (0, 0)) := (gr.block _ (by have := hJ.siz; omega) nb).trans hJ.q
        have hJ2 : RefI w p x0 x1 x2 x3 ls (.slice (some ⟨b, o, none⟩) len ca) (j + 1) (.slice (some ⟨g4, 0, none⟩) (j + 1) cap4) (Y2.setCell ⟨p + 1 + 1, 4, none⟩ (.slice (some ⟨g4, 0, none⟩) (j + 1) cap4)) := by
          have ow2 := ow
          rw [← snoc.out] at ow2
          refine ⟨?_, ?_, ?_, set_own (by omega) ow2, c2.setCell (by show w.heap.size ≤ p + 1 + 1; omega) _, ?_⟩
          · rw [World.cell?_setCell_other _ _ _ _ (by first | (simp; done) | (simp; omega))]
            exact gr.cell hJ.a4 (fun e => by have : p + 3 ≤ p := ob p e.symm; omega)
          · have := at_set hq 4 (.slice (some ⟨g4, 0, none⟩) (j + 1) cap4)
            simpa using this
          · rw [at_far _ _ (by omega)]
            exact (gr.block _ (by have := hJ.siz; omega) (fun e => by have := ob _ e.symm; omega)).trans hJ.r
          · have := hJ.siz; have := gr.size; simp; omega
        have sS2 : (Y2.cell? ⟨p, 4, none⟩ = some (.slice (some ⟨b, o, none⟩) len ca) ∧ Y2.cell? ⟨b, o + j * 4, none⟩ = some (.int .i64 t0) ∧ Y2.cell? ⟨b, o + j * 4 + 1, none⟩ = some (.bool t1) ∧ Y2.cell? ⟨b, o + j * 4 + 2, none⟩ = some (.int .u64 t2) ∧ Y2.cell? ⟨b, o + j * 4 + 3, none⟩ = some (.int .u64 t3)) := hSS _ c2 (gr.cell hJ.a4 (fun e => by have : p + 3 ≤ p := ob p e.symm; omega))
        have sS3 : ((Y2.setCell ⟨p + 1 + 1, 4, none⟩ (.slice (some ⟨g4, 0, none⟩) (j + 1) cap4)).cell? ⟨p, 4, none⟩ = some (.slice (some ⟨b, o, none⟩) len ca) ∧ (Y2.setCell ⟨p + 1 + 1, 4, none⟩ (.slice (some ⟨g4, 0, none⟩) (j + 1) cap4)).cell? ⟨b, o + j * 4, none⟩ = some (.int .i64 t0) ∧ (Y2.setCell ⟨p + 1 + 1, 4, none⟩ (.slice (some ⟨g4, 0, none⟩) (j + 1) cap4)).cell? ⟨b, o + j * 4 + 1, none⟩ = some (.bool t1) ∧ (Y2.setCell ⟨p + 1 + 1, 4, none⟩ (.slice (some ⟨g4, 0, none⟩) (j + 1) cap4)).cell? ⟨b, o + j * 4 + 2, none⟩ = some (.int .u64 t2) ∧ (Y2.setCell ⟨p + 1 + 1, 4, none⟩ (.slice (some ⟨g4, 0, none⟩) (j + 1) cap4)).cell? ⟨b, o + j * 4 + 3, none⟩ = some (.int .u64 t3)) := hSS _ hJ2.bel hJ2.a4
        obtain ⟨u0, u1, u2, u3, u4, uf⟩ := lj_c5 hq
        clear hr ow gr at_ hn hI hJ ob nb c2 hq
        refine hK.out _ _ sS2 (fun hH => ?_)
        clear hK K
        try simp only [Act.put, List.getElem_toArray, List.getElem_cons_zero, List.getElem_cons_succ, List.setIfInBounds_toArray, List.set_cons_zero, List.set_cons_succ]
        refine wpAnyH_take (i := 17) (oi := _) (v := .pointer (some ⟨p + 1 + 1, 4, none⟩)) rfl (by kernel_rfl) (by kernel_rfl) (by kernel_rfl) (fun _ _ _ h => h) (Or.inl ⟨by rfl, fun w' hSw => by obtain ⟨za4, zc0, zc1, zc2, zc3⟩ := hSw; go_simp⟩) hH ?_
        simp only [Act.put, List.getElem_toArray, List.getElem_cons_zero, List.getElem_cons_succ, List.setIfInBounds_toArray, List.set_cons_zero, List.set_cons_succ]
        refine wpAnyH_ready (rs := [18]) (by kernel_rfl) (by simp) (AllReadyH.cons (o := _) rfl (fun K hK => ?_) AllReadyH.nil)
        go_simp
        refine hK.out _ _ sS3 (fun hH => ?_)
        clear hK K
        try simp only [Act.put, List.getElem_toArray, List.getElem_cons_zero, List.getElem_cons_succ, List.setIfInBounds_toArray, List.set_cons_zero, List.set_cons_succ]
        refine wpAnyH_done (by kernel_rfl) ?_ _
        clear u0 u1 u2 u3 u4 uf sS2 sS3 hS hSS hH
        go_wp2_with fail
        go_roundw
        case rel => exact ⟨_, j + 1, _, rfl, by first | rfl | go_num, by omega, hJ2⟩
        case measure => simp [intOf]; omega
    case neg =>
      have ej : j = len := by omega
      subst ej
      obtain ⟨q0, q1, q2, q3, q4, qf⟩ := lj_c5 hI.out.q
      obtain ⟨r0, r1, r2, r3, r4, rf⟩ := lj_c5 hI.out.r
      have own := hI.out.own
      rw [← hlen'.out, List.take_length] at own
      obtain ⟨oo, oc, rfl⟩ := lo_shape own
      have tat := lo_tat own
      have up := lo_up own
      have bel : Hid (Below w.heap.size w V) := hI.out.bel
      clear hI own ta' hlen'
      go_wp2_with fail
      exact bodyPost_ret (v := .agg #[.bool x0, .bool x1, .int .u64 x2, .int .u64 x3, .slice oo ls.length oc]) (by simp [results, Tryz.results26, go_sem, r0, r1, r2, r3, r4]) rfl ⟨told.out _ _ (((((tat.set up (by omega)).set up (by omega)).set up (by omega)).set up (by omega)).set up (by omega)) (up.le (by omega)), (((((bel.out.setCell (p := ⟨p + 1, 0, none⟩) (by show w.heap.size ≤ p + 1; omega) _).setCell (p := ⟨p + 1, 1, none⟩) (by show w.heap.size ≤ p + 1; omega) _).setCell (p := ⟨p + 1, 2, none⟩) (by show w.heap.size ≤ p + 1; omega) _).setCell (p := ⟨p + 1, 3, none⟩) (by show w.heap.size ≤ p + 1; omega) _).setCell (p := ⟨p + 1, 4, none⟩) (by show w.heap.size ≤ p + 1; omega) _)⟩
end Go.Proofs.YteafnkimcidkhaaGreat


