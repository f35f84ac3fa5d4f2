/- linear's forms in memory: whole, rightTerms, Right, isBounded. -/
import Derived.Test.YteafnkimcidkhaaGreatLiA
namespace Go.Proofs.YteafnkimcidkhaaGreat
open Go.RowKit
set_option linter.unusedVariables false
set_option linter.unusedSimpArgs false
/-- Terms lie in memory, in a row. -/
def TAt (W : World) (v : Value) (ls : List (Int × Bool × Int × Int)) : Prop := (v = .slice none 0 0 ∧ ls = []) ∨ ∃ (b o cap : Nat), v = .slice (some ⟨b, o, none⟩) ls.length cap ∧ ls.length ≤ cap ∧ ∀ (j : Nat) t, ls[j]? = some t → W.cell? ⟨b, o + j * 4, none⟩ = some (.int .i64 t.1) ∧ W.cell? ⟨b, o + j * 4 + 1, none⟩ = some (.bool t.2.1) ∧ W.cell? ⟨b, o + j * 4 + 2, none⟩ = some (.int .u64 t.2.2.1) ∧ W.cell? ⟨b, o + j * 4 + 3, none⟩ = some (.int .u64 t.2.2.2)
theorem TAt.on {W V : World} {v : Value} {ls : List (Int × Bool × Int × Int)} (h : TAt W v ls) (g : Below W.heap.size W V) : TAt V v ls := by
  rcases h with h | ⟨b, o, cap, rfl, hc, h⟩
  · exact Or.inl h
  · exact Or.inr ⟨b, o, cap, rfl, hc, fun j t hj => by
      obtain ⟨h0, h1, h2, h3⟩ := h j t hj
      exact ⟨sp_cell_on g h0, sp_cell_on g h1, sp_cell_on g h2, sp_cell_on g h3⟩⟩
theorem TAt.but {S : Nat → Prop} {W V : World} {v : Value} {ls : List (Int × Bool × Int × Int)} (h : TAt W v ls) (g : But S W V) (hS : ∀ k, S k → W.heap.size ≤ k) : TAt V v ls := by
  rcases h with h | ⟨b, o, cap, rfl, hc, h⟩
  · exact Or.inl h
  · refine Or.inr ⟨b, o, cap, rfl, hc, fun j t hj => ?_⟩
    obtain ⟨h0, h1, h2, h3⟩ := h j t hj
    have lb : b < W.heap.size := World.block_lt_of_cell? W _ h0
    have ns : ¬ S b := fun q => absurd (hS b q) (by omega)
    exact ⟨g.cell ns h0, g.cell ns h1, g.cell ns h2, g.cell ns h3⟩
/-- Variables rise; Coefs have numbers, and are not 0. -/
def rT (N Z : Bool × Int × Int → Bool) : Int → List (Int × Bool × Int × Int) → Bool
  | _, [] => true
  | q, t :: ls => !decide (t.1 ≤ q) && N t.2 && !Z t.2 && rT N Z t.1 ls
theorem rT_cons (N Z : Bool × Int × Int → Bool) (q : Int) (t : Int × Bool × Int × Int) (ls : List (Int × Bool × Int × Int)) : rT N Z q (t :: ls) = (!decide (t.1 ≤ q) && N t.2 && !Z t.2 && rT N Z t.1 ls) := rfl
set_option maxRecDepth 100000 in
set_option maxHeartbeats 6400000 in
theorem liwhole (w : World) : Calls Tryz.prog 61 #[] w fun e w' => e = .returned (.agg #[.bool true, .bool false, .int .u64 0, .int .u64 0, .slice none 0 0]) ∧ Below w.heap.size w w' := by
  go_enter Tryz.func61, Tryz.ntmps61
  go_wp2_with fail
  exact bodyPost_ret (v := .agg #[.bool true, .bool false, .int .u64 0, .int .u64 0, .slice none 0 0]) (by simp [results, Tryz.results61, go_sem]) rfl ⟨rfl, sp_new (Below.refl _ _) _⟩
set_option maxRecDepth 100000 in
set_option maxHeartbeats 6400000 in
theorem litms (N Z : Bool × Int × Int → Bool) (ls : List (Int × Bool × Int × Int)) (hn : ls.length ≤ 1000) (v : Value) (hN : ∀ t ∈ ls, ∀ V, Calls Tryz.prog 60 #[.agg #[.bool t.2.1, .int .u64 t.2.2.1, .int .u64 t.2.2.2]] V fun e w' => e = .returned (.bool (N t.2)) ∧ Below V.heap.size V w') (hZ : ∀ t ∈ ls, ∀ V, Calls Tryz.prog 120 #[.agg #[.bool t.2.1, .int .u64 t.2.2.1, .int .u64 t.2.2.2]] V fun e w' => e = .returned (.bool (Z t.2)) ∧ Below V.heap.size V w') (w : World) (hv : TAt w v ls) :
    Calls Tryz.prog 65 #[v] w fun e w' => e = .returned (.bool (decide (ls.length ≤ 16) && rT N Z (-1) ls)) ∧ Below w.heap.size w w' := by
  rcases hv with ⟨rfl, rfl⟩ | ⟨b, o, cap, rfl, hcap, ht⟩
  · go_enter Tryz.func65, Tryz.ntmps65
    go_wp2_with fail
    refine wp_loop_rounds 1 ?_
    rw [rounds_succ]
    go_wp2_with fail
    go_ret
    exact ⟨rfl, Below.refl _ _⟩
  by_cases h16 : ls.length ≤ 16
  · rw [decide_eq_true h16, Bool.true_and]
    obtain ⟨R, HR⟩ : ∃ R, Hid (rT N Z (-1) ls = R) := ⟨_, rfl⟩
    rw [HR.out]
    have h16' : ¬ (16 : Int) < (ls.length : Int) := by omega
    go_enter Tryz.func65, Tryz.ntmps65
    go_wp2_with fail
    go_loopw [3, 11] (fun bh i wr => ∃ (WR : World) (j : Nat) (q : Int), WR = wr ∧ j ≤ ls.length ∧ bh = .int .i64 q ∧ i = .int .i64 j ∧ Hid (rT N Z q (ls.drop j) = R) ∧ Below w.heap.size w wr) (fun _ i _ => ls.length - (intOf i).toNat)
    case atStart => exact ⟨_, 0, _, rfl, by omega, rfl, rfl, HR, Below.refl _ _⟩
    case round =>
      obtain ⟨WR, j, q, rfl, hj, rfl, rfl, hr, cc⟩ := hrel
      clear HR
      by_cases cj : j < ls.length
      · have ci : (j : Int) < (ls.length : Int) := by omega
        obtain ⟨t, et⟩ : ∃ t, ls[j]? = some t := ⟨_, List.getElem?_eq_getElem cj⟩
        obtain ⟨c0, c1, c2, c3⟩ := ht j t et
        replace c0 := sp_cell_on cc c0
        replace c1 := sp_cell_on cc c1
        replace c2 := sp_cell_on cc c2
        replace c3 := sp_cell_on cc c3
        have mt := List.mem_of_getElem? et
        have k1 := hN t mt
        have k2 := hZ t mt
        have dr : ls.drop j = t :: ls.drop (j + 1) := by
          have e1 := List.drop_eq_getElem_cons cj
          have e2 := List.getElem?_eq_getElem cj
          rw [et] at e2
          rw [e1, ← Option.some.inj e2]
        have hr2 := hr.out
        rw [dr, rT_cons] at hr2
        clear hr dr mt et ht hN hZ
        obtain ⟨tv, te, tl, th⟩ := t
        dsimp only at *
        generalize N (te, tl, th) = nb at *
        generalize Z (te, tl, th) = zb at *
        by_cases hq : tv ≤ q
        · rw [decide_eq_true hq] at hr2
          have hR : R = false := by rw [← hr2]; simp
          clear hr2
          subst hR
          go_wp2_with fail
          go_ret
          exact ⟨rfl, sp_new cc _⟩
        · rw [decide_eq_false hq] at hr2
          simp only [Bool.not_false, Bool.true_and] at hr2
          cases nb
          · have hR : R = false := by rw [← hr2]; simp
            clear hr2
            subst hR
            go_wp2_with (first
              | (go_at_call 60; (with_reducible refine (k1 _).mono ?_); rintro e v1 ⟨rfl, g1⟩; have z1 := g1.size; simp only [World.size_alloc] at z1; have n0 := sp_cell_on g1 (show World.cell? _ ⟨WR.heap.size, 0, none⟩ = some (.int .i64 tv) by simp [go_sem]); have n1 := sp_cell_on g1 (show World.cell? _ ⟨WR.heap.size, 1, none⟩ = some (.bool te) by simp [go_sem]); have n2 := sp_cell_on g1 (show World.cell? _ ⟨WR.heap.size, 2, none⟩ = some (.int .u64 tl) by simp [go_sem]); have n3 := sp_cell_on g1 (show World.cell? _ ⟨WR.heap.size, 3, none⟩ = some (.int .u64 th) by simp [go_sem]); have cv := sp_call (sp_new cc _) g1; clear g1)
              | fail)
            go_ret
            exact ⟨rfl, cv⟩
          · cases zb
            · have HR : Hid (rT N Z tv (ls.drop (j + 1)) = R) := by rw [← hr2]; simp [Hid]
              clear hr2
              go_wp2_with (first
                | (go_at_call 60; (with_reducible refine (k1 _).mono ?_); rintro e v1 ⟨rfl, g1⟩; have z1 := g1.size; simp only [World.size_alloc] at z1; have n0 := sp_cell_on g1 (show World.cell? _ ⟨WR.heap.size, 0, none⟩ = some (.int .i64 tv) by simp [go_sem]); have n1 := sp_cell_on g1 (show World.cell? _ ⟨WR.heap.size, 1, none⟩ = some (.bool te) by simp [go_sem]); have n2 := sp_cell_on g1 (show World.cell? _ ⟨WR.heap.size, 2, none⟩ = some (.int .u64 tl) by simp [go_sem]); have n3 := sp_cell_on g1 (show World.cell? _ ⟨WR.heap.size, 3, none⟩ = some (.int .u64 th) by simp [go_sem]); have cv := sp_call (sp_new cc _) g1; clear g1)
                | (go_at_call 120; (with_reducible refine (k2 _).mono ?_); rintro e v2 ⟨rfl, g2⟩; replace n0 := sp_cell_on g2 n0; replace n1 := sp_cell_on g2 n1; replace n2 := sp_cell_on g2 n2; replace n3 := sp_cell_on g2 n3; replace cv := sp_call cv g2; clear g2)
                | fail)
              go_roundw
              case rel => exact ⟨_, j + 1, _, rfl, by omega, rfl, by go_num, HR, cv⟩
              case measure => simp [intOf]; omega
            · have hR : R = false := by rw [← hr2]; simp
              clear hr2
              subst hR
              go_wp2_with (first
                | (go_at_call 60; (with_reducible refine (k1 _).mono ?_); rintro e v1 ⟨rfl, g1⟩; have z1 := g1.size; simp only [World.size_alloc] at z1; have n0 := sp_cell_on g1 (show World.cell? _ ⟨WR.heap.size, 0, none⟩ = some (.int .i64 tv) by simp [go_sem]); have n1 := sp_cell_on g1 (show World.cell? _ ⟨WR.heap.size, 1, none⟩ = some (.bool te) by simp [go_sem]); have n2 := sp_cell_on g1 (show World.cell? _ ⟨WR.heap.size, 2, none⟩ = some (.int .u64 tl) by simp [go_sem]); have n3 := sp_cell_on g1 (show World.cell? _ ⟨WR.heap.size, 3, none⟩ = some (.int .u64 th) by simp [go_sem]); have cv := sp_call (sp_new cc _) g1; clear g1)
                | (go_at_call 120; (with_reducible refine (k2 _).mono ?_); rintro e v2 ⟨rfl, g2⟩; replace n0 := sp_cell_on g2 n0; replace n1 := sp_cell_on g2 n1; replace n2 := sp_cell_on g2 n2; replace n3 := sp_cell_on g2 n3; replace cv := sp_call cv g2; clear g2)
                | fail)
              go_ret
              exact ⟨rfl, cv⟩
      · have ej : j = ls.length := by omega
        subst ej
        have hR : true = R := by have := hr.out; rw [List.drop_length] at this; exact this
        subst hR
        clear hr
        go_wp2_with fail
        go_ret
        exact ⟨rfl, cc⟩
  · rw [decide_eq_false h16, Bool.false_and]
    have h16' : (16 : Int) < (ls.length : Int) := by omega
    go_enter Tryz.func65, Tryz.ntmps65
    go_wp2_with fail
    go_ret
    exact ⟨rfl, Below.refl _ _⟩
end Go.Proofs.YteafnkimcidkhaaGreat
