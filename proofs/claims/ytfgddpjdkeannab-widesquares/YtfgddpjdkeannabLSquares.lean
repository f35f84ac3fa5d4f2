/- The statement WideSquares, walked: a root's square and what is left are the number. -/
import Derived.Test.YtfgddpjdkeannabAids
namespace Go.Proofs.Ytfgddpjdkeannab
open Go.RowKit
set_option linter.unusedVariables false
theorem cmpN_nonpos' {a b n : Int} (h : n = cmpN a b) (c : a ≤ b) : n ≤ 0 := by
  rw [h]; unfold cmpN; split
  · omega
  · rw [if_neg (by omega)]; omega

set_option maxHeartbeats 3200000 in
theorem law_squares (ah al : Int) (h1 : Word ah) (h2 : Word al) (w : World) :
    Calls Try.prog 4 #[.agg #[.int .u64 ah, .int .u64 al]] w fun e w' => e = .returned (.bool true) ∧ Below w.heap.size w w' := by
  have hq := eql_u128
  have hnot : ∀ (x : Bool) (w : World), (Op.unary .not (.bool x)).run Try.prog w = .ok (.bool (!x)) w := fun _ _ => rfl
  have L := (Below.refl w.heap.size w).alloc (Nat.le_refl _) (.cells #[.int .u64 ah, .int .u64 al] 24)
  have c0 := cell_new0 w (.int .u64 ah) (.int .u64 al) 24
  have c1 := cell_new1 w (.int .u64 ah) (.int .u64 al) 24
  go_enter Try.func4, Try.ntmps4
  go_wp2_with fail
  refine (sqrt_any ah al h1 h2 _).mono ?_
  rintro e w1 ⟨r, xh, xl, rfl, wr, wxh, wxl, X1, X2, hb1⟩
  replace c0 := cell_on hb1 c0; replace c1 := cell_on hb1 c1
  replace L := below_call L hb1
  have e0 := cell_new0 w1 (.int .u64 xh) (.int .u64 xl) 24; have e1 := cell_new1 w1 (.int .u64 xh) (.int .u64 xl) 24
  replace c0 := cell_past c0 (.cells #[.int .u64 xh, .int .u64 xl] 24); replace c1 := cell_past c1 (.cells #[.int .u64 xh, .int .u64 xl] 24)
  replace L := below_new L (.cells #[.int .u64 xh, .int .u64 xl] 24)
  go_upto_region 2 with fail
  go_cut [5, 6] from 15 to 21 (fun s u wx => ∃ b : Nat, s = .pointer (some ⟨b, 0, none⟩) ∧ u = .bool false ∧ wx.cell? ⟨b, 0, none⟩ = some (.int .u64 ah) ∧ wx.cell? ⟨b, 1, none⟩ = some (.int .u64 al) ∧ wx.cell? ⟨w.heap.size, 0, none⟩ = some (.int .u64 ah) ∧ wx.cell? ⟨w.heap.size, 1, none⟩ = some (.int .u64 al) ∧ wx.cell? ⟨w1.heap.size, 0, none⟩ = some (.int .u64 xh) ∧ wx.cell? ⟨w1.heap.size, 1, none⟩ = some (.int .u64 xl) ∧ Below w.heap.size w wx)
  case first =>
    generalize w1.alloc (.cells #[.int .u64 xh, .int .u64 xl] 24) = W0 at *
    have z0 := lt_new c0; have z1 := lt_new e0
    go_region_with
      (first
        | (go_at_call 13; refine (mul_any r r wr wr _).mono ?_; rintro e w2 ⟨ph, pl, rfl, wph, wpl, P, B2⟩; obtain ⟨hc2, hf2⟩ := bcell B2; have hs2 := B2.size; (try simp at hs2); (first | (have z2 : W0.heap.size < w2.heap.size := Nat.lt_of_succ_le hs2) | skip); have c0' : w2.cell? ⟨w.heap.size, 0, none⟩ = some (.int .u64 ah) := (by first | exact cell_on B2 c0 | exact cell_on B2 (cell_past c0 _)); have c1' : w2.cell? ⟨w.heap.size, 1, none⟩ = some (.int .u64 al) := (by first | exact cell_on B2 c1 | exact cell_on B2 (cell_past c1 _)); have e0' : w2.cell? ⟨w1.heap.size, 0, none⟩ = some (.int .u64 xh) := (by first | exact cell_on B2 e0 | exact cell_on B2 (cell_past e0 _)); have e1' : w2.cell? ⟨w1.heap.size, 1, none⟩ = some (.int .u64 xl) := (by first | exact cell_on B2 e1 | exact cell_on B2 (cell_past e1 _)); have z3 := lt_new c0'; have z4 := lt_new e0')
        | (go_at_call 9; refine (add_any ph pl xh xl wph wpl wxh wxl _).mono ?_; rintro e w3 ⟨qh, ql, qc, rfl, wqh, wql, Q, QC, B3⟩; obtain ⟨hc3, hf3⟩ := bcell B3; have hs3 := B3.size; (try simp at hs3)))
    all_goals
      have c0'' : w3.cell? ⟨w.heap.size, 0, none⟩ = some (.int .u64 ah) := (by first | exact cell_on B3 c0' | exact cell_on B3 (cell_past c0' _))
      have c1'' : w3.cell? ⟨w.heap.size, 1, none⟩ = some (.int .u64 al) := (by first | exact cell_on B3 c1' | exact cell_on B3 (cell_past c1' _))
      have e0'' : w3.cell? ⟨w1.heap.size, 0, none⟩ = some (.int .u64 xh) := (by first | exact cell_on B3 e0' | exact cell_on B3 (cell_past e0' _))
      have e1'' : w3.cell? ⟨w1.heap.size, 1, none⟩ = some (.int .u64 xl) := (by first | exact cell_on B3 e1' | exact cell_on B3 (cell_past e1' _))
      have L2 : Below w.heap.size w w2 := by
        first
          | exact below_call L.drew B2
          | exact below_call (below_new L _).drew B2
      have L3 : Below w.heap.size w w3 := by
        first
          | exact below_call L2 B3
          | exact below_call (below_new L2 _) B3
      have nA := num_hi h1 h2
      have nL := num_lo h1 h2
      have eS : num ph pl + num xh xl = num ah al := by rw [P.out, X1.out]
      obtain ⟨hq1, hq2⟩ := num_inj wqh wql h1 h2 (by rw [Q.out, eS]; omega)
      have hq3 : qc = false := by rw [QC.out, eS]; simp; omega
      subst hq1 hq2 hq3
      have y3 := lt_new c0''
      have y4 := lt_new e0''
      have y5 := L2.size
      have y6 := L3.size
      go_wp2_with fail
      go_meet
      refine ⟨_, rfl, rfl, ?_, ?_, ?_, ?_, ?_, ?_, ?_⟩
      · simp [go_sem, *]
      · simp [go_sem, *]
      · first
          | exact cell_past c0'' _
          | (simp [go_sem, *]; done)
          | (rw [World.cell?_setCell_far _ _ _ _ (by simp; omega), World.cell?_setCell_far _ _ _ _ (by simp; omega)]; exact c0'')
      · first
          | exact cell_past c1'' _
          | (rw [World.cell?_setCell_far _ _ _ _ (by simp; omega), World.cell?_setCell_far _ _ _ _ (by simp; omega)]; exact c1'')
      · first
          | exact cell_past e0'' _
          | (rw [World.cell?_setCell_far _ _ _ _ (by simp; omega), World.cell?_setCell_far _ _ _ _ (by simp; omega)]; exact e0'')
      · first
          | exact cell_past e1'' _
          | (rw [World.cell?_setCell_far _ _ _ _ (by simp; omega), World.cell?_setCell_far _ _ _ _ (by simp; omega)]; exact e1'')
      · first
          | exact below_new L3 _
          | exact (L3.setCell (by simp; omega) _).setCell (by simp; omega) _
  case rest =>
    obtain ⟨b, rfl, rfl, g0, g1, c0, c1, e0, e1, L⟩ := hcut
    go_wp2_with fail
    refine (add_any 0 r 0 r word_zero wr word_zero wr _).mono ?_
    rintro e w4 ⟨th, tl, tc, rfl, wth, wtl, T, TC, hb4⟩
    replace c0 := cell_on hb4 c0; replace c1 := cell_on hb4 c1; replace e0 := cell_on hb4 e0; replace e1 := cell_on hb4 e1; replace g0 := cell_on hb4 g0; replace g1 := cell_on hb4 g1
    replace L := below_call L hb4
    have z0 := lt_new c0; have z1 := lt_new e0; have z2 := lt_new g0
    go_wp2_with fail
    refine (live_any _).mono ?_
    rintro e w5 ⟨rfl, hb5⟩
    replace c0 := cell_on hb5 (cell_past c0 _); replace c1 := cell_on hb5 (cell_past c1 _); replace e0 := cell_on hb5 (cell_past e0 _); replace e1 := cell_on hb5 (cell_past e1 _); replace g0 := cell_on hb5 (cell_past g0 _); replace g1 := cell_on hb5 (cell_past g1 _)
    have t0 := cell_on hb5 (cell_new0 w4 _ _ _); have t1 := cell_on hb5 (cell_new1 w4 _ _ _)
    replace L := below_call (below_new L _) hb5
    have q1 : eq2 ah al ah al = true := eq2_true rfl rfl
    go_wp2_with fail
    refine (cmp_any xh xl th tl wxh wxl wth wtl _).mono ?_
    rintro e w6 ⟨n, rfl, C, hb6⟩
    have hn := cmpN_nonpos' C.out (by
      rw [T.out]
      have := X2.out
      have a := wr.1
      have b := wr.2
      unfold num at *
      omega)
    go_wp2_with fail
    go_ret
    exact ⟨rfl, below_call L hb6⟩
end Go.Proofs.Ytfgddpjdkeannab
