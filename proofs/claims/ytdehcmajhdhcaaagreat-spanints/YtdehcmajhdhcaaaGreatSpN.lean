/- SpanInts: all ways. -/
import Derived.Test.YtdehcmajhdhcaaaGreatSpNa
import Derived.Test.YtdehcmajhdhcaaaGreatSpNb
import Derived.Test.YtdehcmajhdhcaaaGreatSpYm
import Derived.Test.YtdehcmajhdhcaaaGreatSpDi
import Derived.Test.YtdehcmajhdhcaaaGreatSpOi
import Derived.Test.YtdehcmajhdhcaaaGreatSpHi
import Derived.Test.YtdehcmajhdhcaaaGreatFlI
import Derived.Test.YtdehcmajhdhcaaaGreatSpRi
import Derived.Test.YtdehcmajhdhcaaaGreatSpLv
namespace Go.Proofs.YtdehcmajhdhcaaaGreat
open Go.RowKit
set_option linter.unusedVariables false
set_option linter.unusedSimpArgs false
set_option maxRecDepth 100000 in
set_option maxHeartbeats 3200000 in
theorem intTop_any (w : World) : Calls Tryz.prog 50 #[] w fun e w' => e = .returned (.agg #[.bool false, .int .i64 (-2147483648), .int .i64 2147483647]) ∧ Below w.heap.size w w' := by
  have h1 := ints_any
  have h : ∀ V, Calls Tryz.prog 122 #[.agg (lvi LnI)] V fun e w' => e = .returned (.agg #[.bool false, .int .i64 (-2147483648), .int .i64 2147483647]) ∧ Below V.heap.size V w' := fun V => all_i LnI V
  have h5 := intRange_any false (-2147483648) 2147483647
  generalize lvi LnI = LV at *
  go_enter Tryz.func50, Tryz.ntmps50
  go_wp2_with fail
  obtain ⟨W, hW⟩ : ∃ W, w.alloc (.cells #[.bool false, .int .i64 0, .int .i64 0] 47) = W := ⟨_, rfl⟩
  have r0 : W.cell? ⟨w.heap.size, 0, none⟩ = some (.bool false) := by rw [← hW]; simp [go_sem]
  have r1 : W.cell? ⟨w.heap.size, 1, none⟩ = some (.int .i64 0) := by rw [← hW]; simp [go_sem]
  have r2 : W.cell? ⟨w.heap.size, 2, none⟩ = some (.int .i64 0) := by rw [← hW]; simp [go_sem]
  have fz : ∀ j, W.frozen? ⟨w.heap.size, j, none⟩ = false := by intro j; rw [← hW]; simp [go_sem]
  have bW : Below w.heap.size w W := by rw [← hW]; exact sp_new (Below.refl _ _) _
  have zW : w.heap.size < W.heap.size := by rw [← hW]; simp
  rw [hW]
  clear hW
  refine (h1 _).mono ?_
  rintro e v1 ⟨rfl, g1⟩
  go_wp2_with fail
  refine (h _).mono ?_
  rintro e v2 ⟨rfl, g2⟩
  go_wp2_with fail
  refine (h5 _).mono ?_
  rintro e v3 ⟨rfl, g3⟩
  have g := sp_call (sp_call g1 g2) g3
  replace fz := fun j => (g.frozen (p := ⟨w.heap.size, j, none⟩) zW).trans (fz j)
  replace bW := sp_call bW g
  replace r0 := sp_cell_on g r0; replace r1 := sp_cell_on g r1; replace r2 := sp_cell_on g r2
  go_wp2_with fail
  exact bodyPost_ret (v := .agg #[.bool false, .int .i64 (-2147483648), .int .i64 2147483647]) (by simp [results, Tryz.results50, go_sem, r0, r1, r2]) rfl ⟨rfl, sp_set3 bW (by omega) _ _ _⟩
/-- What widening by a slice tells, on both sides: the slice is nil, or its numbers stand in memory. -/
def SlAt (w : World) (sl : Value) (ts : List Int) : Prop := (sl = .slice none 0 0 ∧ ts = []) ∨ ∃ bk off cap : Nat, sl = .slice (some ⟨bk, off, none⟩) ts.length cap ∧ ts.length ≤ 9223372036854775807 ∧ (∀ x ∈ ts, WyI.dom x) ∧ ∀ j x, ts[j]? = some x → w.cell? ⟨bk, off + j, none⟩ = some (.int .i64 x)
theorem SlAt.on {w V : World} {sl : Value} {ts : List Int} (h : SlAt w sl ts) (g : Below w.heap.size w V) : SlAt V sl ts := by
  rcases h with h | ⟨bk, off, cap, h1, h2, h3, h4⟩
  · exact Or.inl h
  · exact Or.inr ⟨bk, off, cap, h1, h2, h3, fun j x hx => sp_cell_on g (h4 j x hx)⟩
theorem pwiden_sl (e1 e2 : Bool) (a b c d : Int) (da : WyI.dom a) (db : WyI.dom b) (dc : WyI.dom c) (dd : WyI.dom d) (sl : Value) (ts : List Int) (V : World) (h : SlAt V sl ts) :
    Calls Tryz.prog 60 #[.agg #[.bool e1, .int .i64 a, .int .i64 b], .agg #[.bool e2, .int .i64 c, .int .i64 d], sl] V fun e w' => e = .returned (.agg #[.bool (rWidenI (e1, a, b) (e2, c, d) ts).1, .int .i64 (rWidenI (e1, a, b) (e2, c, d) ts).2.1, .int .i64 (rWidenI (e1, a, b) (e2, c, d) ts).2.2]) ∧ Below V.heap.size V w' := by
  refine intWiden_of e1 a b e2 c d sl _ _ _ V (fun V' g => ?_)
  rw [← iwiden_same]
  rcases h.on g with ⟨rfl, rfl⟩ | ⟨bk, off, cap, rfl, h2, h3, h4⟩
  · exact widenN_i (acts_i V') e1 e2 a b c d da db dc dd V' (Below.refl _ _)
  · exact widen_i (acts_i V') e1 e2 a b c d da db dc dd (domI_of (by decide) (by decide)) (domI_of (by decide) (by decide)) ts h2 h3 bk off cap V' (Below.refl _ _) h4
theorem rwiden_sl (e1 e2 : Bool) (a b c d : Int) (sl : Value) (ts : List Int) (V : World) (h : SlAt V sl ts) :
    Calls Tryz.prog 61 #[.agg #[.bool e1, .int .i64 a, .int .i64 b], .agg #[.bool e2, .int .i64 c, .int .i64 d], sl] V fun e w' => e = .returned (.agg #[.bool (rWidenI (e1, a, b) (e2, c, d) ts).1, .int .i64 (rWidenI (e1, a, b) (e2, c, d) ts).2.1, .int .i64 (rWidenI (e1, a, b) (e2, c, d) ts).2.2]) ∧ Below V.heap.size V w' := by
  rcases h with ⟨rfl, rfl⟩ | ⟨bk, off, cap, rfl, h2, h3, h4⟩
  · exact rwidenN_any e1 a b e2 c d V
  · exact rwidenI_any e1 a b e2 c d ts h2 bk off cap V h4
theorem law_ints (e1 : Bool) (a b : Int) (e2 : Bool) (c d : Int) (sl : Value) (ts : List Int) (da : WyI.dom a) (db : WyI.dom b) (dc : WyI.dom c) (dd : WyI.dom d) (w : World) (hs : SlAt w sl ts) :
    Calls Tryz.prog 7 #[.agg #[.bool e1, .int .i64 a, .int .i64 b], .agg #[.bool e2, .int .i64 c, .int .i64 d], sl] w fun e w' => e = .returned (.bool true) ∧ Below w.heap.size w w' := by
  have S1 := intRight_of e1 a b _ (fun V => right_i (acts_i V) e1 a b da db V (Below.refl _ _))
  have R1 := rright_i e1 a b
  have R2 := rright_i e2 c d
  have S2 := intOf_of a d _ _ _ (fun V => of_i (acts_i V) a d da dd da dd V (Below.refl _ _))
  have Q2 := rofI_any a d
  rw [iright_same] at S1
  rw [iof_same] at S2
  cases r1 : rI e1 a b
  · rw [r1] at R1 S1
    exact ints_o1 e1 a b e2 c d sl _ _ _ _ _ _ w S1 R1 S2 Q2 intTop_any rtopI_any live_any
  rw [r1] at R1 S1
  cases r2 : rI e2 c d
  · rw [r2] at R2
    exact ints_o2 e1 a b e2 c d sl _ _ _ _ _ _ w S1 R1 S2 Q2 intTop_any rtopI_any R2 live_any
  rw [r2] at R2
  have S4 := intHas_of e1 a b c _ (fun V => has_i (acts_i V) e1 a b c da db dc dc V (Below.refl _ _))
  have S5 := fun V => intMeet_of e1 a b e2 c d _ _ _ V (fun V' => meet_i (acts_i V') e1 e2 a b c d da db dc dd V' (Below.refl _ _))
  have S6 := fun V => intJoin_of e1 a b e2 c d _ _ _ V (fun V' => join_i (acts_i V') e1 e2 a b c d da db dc dd V' (Below.refl _ _))
  have S7 := intWithin_of e1 a b e2 c d _ (fun V => within_i (acts_i V) e1 e2 a b c d da db dc dd V (Below.refl _ _))
  rw [ihas_same r1] at S4
  rw [iwithin_same] at S7
  simp only [imeet_same] at S5
  simp only [ijoin_same] at S6
  exact ints_ok e1 a b e2 c d sl _ _ _ _ _ _ _ _ _ _ _ _ _ _ _ _ _ w S1 R1 S2 Q2 intTop_any rtopI_any R2 live_any S4 (rhas_i e1 a b c) S5 (rmeetI_any e1 a b e2 c d) S6 (rjoinI_any e1 a b e2 c d) S7 (rwithinI_any e1 a b e2 c d) (fun V g => pwiden_sl e1 e2 a b c d da db dc dd sl ts V (hs.on g)) (fun V g => rwiden_sl e1 e2 a b c d sl ts V (hs.on g))
end Go.Proofs.YtdehcmajhdhcaaaGreat

