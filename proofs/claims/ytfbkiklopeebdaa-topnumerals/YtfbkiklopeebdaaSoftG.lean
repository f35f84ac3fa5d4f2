/- Rounding, whole: soft.Round. -/
import Derived.Test.YtfbkiklopeebdaaSoftF
namespace Go.Proofs.Ytfbkiklopeebdaa
open Go.RowKit
set_option linter.unusedVariables false
set_option linter.unusedSimpArgs false
def fW (s : Bool) : Int := if s then 32 else 64
def fQ (s : Bool) : Int := if s then 23 else 52
theorem fmtV_eq (s : Bool) : fmtV s = .agg #[.int .i64 (fW s), .int .i64 (fQ s), .int .i64 (fL s), .int .u64 (fS s), .int .u64 (fI s)] := by cases s <;> rfl
theorem fmtO_eq (s : Bool) : fmtO s = .cells #[.int .i64 (fW s), .int .i64 (fQ s), .int .i64 (fL s), .int .u64 (fS s), .int .u64 (fI s)] 61 := by cases s <;> rfl
theorem size_any (s : Bool) (m : Int) (b : Bool) (ah al e : Int) (h1 : Word ah) (h2 : Word al) (n0 : nn ah al ≠ 0) (e1 : -4010 ≤ e) (e2 : e ≤ 4010) (w : World) :
    Calls Try.prog 28 #[fmtV s, rdV m, .bool b, .agg #[.int .u64 ah, .int .u64 al], .int .i64 e] w fun r w' => r = .returned (.int .u64 (mag s m b (nn ah al) e)) ∧ Below w.heap.size w w' := by
  cases s
  · exact size_d m b ah al e h1 h2 n0 e1 e2 w
  · exact size_s m b ah al e h1 h2 n0 e1 e2 w
def clamp (e : Int) : Int := min (max e (-4000)) 4000
theorem clamp_lo (e : Int) : -4000 ≤ clamp e := by unfold clamp; omega
theorem clamp_hi (e : Int) : clamp e ≤ 4000 := by unfold clamp; omega
theorem clamp_id {e : Int} (h : -4000 ≤ e) (h' : e ≤ 4000) : clamp e = e := by unfold clamp; omega
theorem fI_pos (s : Bool) : 0 ≤ fI s := by cases s <;> decide
theorem eq2_zero {h l : Int} (a : Word h) (b : Word l) : eq2 h l 0 0 = decide (nn h l = 0) := by
  rw [eq2_num a b word_zero word_zero, decide_eq_decide]
  have := nn_num a b
  have z : num 0 0 = 0 := rfl
  omega
/-- Cells of a format's block. -/
def FmtAt (w : World) (k : Nat) (s : Bool) : Prop := w.cell? ⟨k, 0, none⟩ = some (.int .i64 (fW s)) ∧ w.cell? ⟨k, 1, none⟩ = some (.int .i64 (fQ s)) ∧ w.cell? ⟨k, 2, none⟩ = some (.int .i64 (fL s)) ∧ w.cell? ⟨k, 3, none⟩ = some (.int .u64 (fS s)) ∧ w.cell? ⟨k, 4, none⟩ = some (.int .u64 (fI s))
theorem FmtAt.on {W w1 : World} {k : Nat} {s : Bool} (h : FmtAt W k s) (hb : Below W.heap.size W w1) : FmtAt w1 k s := by
  obtain ⟨a, b, c, d, e⟩ := h
  exact ⟨cell_on hb a, cell_on hb b, cell_on hb c, cell_on hb d, cell_on hb e⟩
theorem FmtAt.past {W : World} {k : Nat} {s : Bool} (h : FmtAt W k s) (o : Obj) : FmtAt (W.alloc o) k s := by
  obtain ⟨a, b, c, d, e⟩ := h
  exact ⟨cell_past a o, cell_past b o, cell_past c o, cell_past d o, cell_past e o⟩
theorem FmtAt.new (W : World) (s : Bool) : FmtAt (W.alloc (fmtO s)) W.heap.size s := by
  rw [fmtO_eq]
  unfold FmtAt
  simp [go_sem]
theorem FmtAt.drew {W : World} {k : Nat} {s : Bool} (h : FmtAt W k s) : FmtAt W.drew k s := h
theorem FmtAt.lt {W : World} {k : Nat} {s : Bool} (h : FmtAt W k s) : k < W.heap.size := lt_new h.1
theorem frozen_past {w1 : World} {b o : Nat} (h : b < w1.heap.size) (f : w1.frozen? ⟨b, o, none⟩ = false) (x : Obj) : (w1.alloc x).frozen? ⟨b, o, none⟩ = false :=
  ((bcell ((Below.refl w1.heap.size w1).alloc (Nat.le_refl _) x)).2 _ _ h).trans f
theorem set2_cell {w : World} {b c o : Nat} {u : Value} (x y : Value) (h : b ≠ c) (c0 : w.cell? ⟨c, o, none⟩ = some u) :
    ((w.setCell ⟨b, 0, none⟩ x).setCell ⟨b, 1, none⟩ y).cell? ⟨c, o, none⟩ = some u :=
  (World.cell?_setCell_other _ _ _ _ (by simp [h])).trans ((World.cell?_setCell_other _ _ _ _ (by simp [h])).trans c0)
set_option maxRecDepth 8000 in
set_option maxHeartbeats 3200000 in
theorem round_any (f m : Int) (b : Bool) (ah al e : Int) (more : Bool) (h1 : Word ah) (h2 : Word al) (e1 : -9223372036854775808 ≤ e) (e2 : e ≤ 9223372036854775807) (w : World) :
    Calls Try.prog 20 #[.int .i64 f, .int .i64 m, .bool b, .agg #[.int .u64 ah, .int .u64 al], .int .i64 e, .bool more] w fun r w' => r = .returned (.int .u64 (rndQ (f == 1) m b (nn ah al) (clamp e) more)) ∧ Below w.heap.size w w' := by
  have hq := eql_u128
  have hfo := formatOf_any f
  generalize (f == 1) = s at *
  have hsg0 := signed_any s b 0 (Int.le_refl 0) (fI_pos s)
  have hV : ∃ V : Int, rndQ s m b (nn ah al) (clamp e) more = V := ⟨_, rfl⟩
  obtain ⟨V, hV⟩ := hV
  rw [hV]
  have HV : Hid _ := hV
  clear hV
  have hcl : min (max e (-4000)) 4000 = clamp e := rfl
  have hc1 := clamp_lo e
  have hc2 := clamp_hi e
  have hwq := withQuarter_any ah al (clamp e) h1 h2 hc1 hc2
  generalize clamp e = x at *
  rw [fmtV_eq] at hfo
  have L := (Below.refl w.heap.size w).alloc (Nat.le_refl _) (.cells #[.int .u64 ah, .int .u64 al] 49)
  go_enter Try.func20, Try.ntmps20
  go_wp2_with fail
  refine (hfo _).mono ?_
  rintro r w1 ⟨rfl, hb1⟩
  have c0 := cell_on hb1 (cell_new0 w (.int .u64 ah) (.int .u64 al) 49)
  have c1 := cell_on hb1 (cell_new1 w (.int .u64 ah) (.int .u64 al) 49)
  have f0 : w1.frozen? ⟨w.heap.size, 0, none⟩ = false := by rw [(bcell hb1).2 _ _ (by simp)]; simp [go_sem]
  have f1 : w1.frozen? ⟨w.heap.size, 1, none⟩ = false := by rw [(bcell hb1).2 _ _ (by simp)]; simp [go_sem]
  have z0 := lt_new c0
  replace L := below_call L hb1
  obtain ⟨y0, y1, y2, y3, y4⟩ := FmtAt.new w1 s
  replace L := below_new L (fmtO s)
  replace c0 := cell_past c0 (fmtO s); replace c1 := cell_past c1 (fmtO s)
  rw [fmtO_eq] at y0 y1 y2 y3 y4 L c0 c1
  rw [fmtV_eq] at hsg0
  cases more
  · rw [rndQ_false] at HV
    by_cases c : nn ah al = 0
    · have hz : eq2 ah al 0 0 = true := by rw [eq2_zero h1 h2]; simp [c]
      have v := HV.out
      rw [c, rnd_zero] at v
      subst v
      go_wp2_with fail
      refine (hsg0 _).mono ?_
      rintro r w' ⟨rfl, rfl⟩
      go_wp2_with fail
      go_ret
      exact ⟨rfl, below_new L _⟩
    · have hz : eq2 ah al 0 0 = false := by rw [eq2_zero h1 h2]; simp [c]
      have v := HV.out
      obtain ⟨g, hg, hg2⟩ := mag_any s m b c x
      have hsz := size_any s m b ah al x h1 h2 c (by omega) (by omega)
      unfold rnd at v
      rw [if_neg c, hg] at v
      rw [hg, fmtV_eq] at hsz
      have hsg := signed_any s b g (Int.natCast_nonneg g) hg2
      rw [v, fmtV_eq] at hsg
      have hrd := roundingOf_any m
      unfold rdV at hsz hrd
      generalize (g : Int) = G at *
      clear v HV hsg0 hg hg2
      go_wp2_with fail
      go_region_held3 (fun w' => w'.cell? ⟨w1.heap.size, 0, none⟩ = some (.int .i64 (fW s)) ∧ w'.cell? ⟨w1.heap.size, 1, none⟩ = some (.int .i64 (fQ s)) ∧ w'.cell? ⟨w1.heap.size, 2, none⟩ = some (.int .i64 (fL s)) ∧ w'.cell? ⟨w1.heap.size, 3, none⟩ = some (.int .u64 (fS s)) ∧ w'.cell? ⟨w1.heap.size, 4, none⟩ = some (.int .u64 (fI s)) ∧ w'.cell? ⟨w.heap.size, 0, none⟩ = some (.int .u64 ah) ∧ w'.cell? ⟨w.heap.size, 1, none⟩ = some (.int .u64 al))
        (first | exact ⟨y0, y1, y2, y3, y4, c0, c1⟩ | (simp [go_sem, *]; done))
        (first
          | (go_at_call 29; refine (hrd _).mono ?_; rintro r w2 ⟨rfl, rfl⟩; replace y0 := cell_past y0 (rdO m); replace y1 := cell_past y1 (rdO m); replace y2 := cell_past y2 (rdO m); replace y3 := cell_past y3 (rdO m); replace y4 := cell_past y4 (rdO m); replace c0 := cell_past c0 (rdO m); replace c1 := cell_past c1 (rdO m); replace L := below_new L.drew (rdO m))
          | (go_at_call 28; refine (hsz _).mono ?_; rintro r w3 ⟨rfl, hb3⟩; replace y0 := cell_on hb3 y0; replace y1 := cell_on hb3 y1; replace y2 := cell_on hb3 y2; replace y3 := cell_on hb3 y3; replace y4 := cell_on hb3 y4; replace c0 := cell_on hb3 c0; replace c1 := cell_on hb3 c1; replace L := below_call L hb3)
          | (go_at_call 27; refine (hsg _).mono ?_; rintro r w4 ⟨rfl, rfl⟩; replace y0 := cell_past y0 (fmtO s); replace y1 := cell_past y1 (fmtO s); replace y2 := cell_past y2 (fmtO s); replace y3 := cell_past y3 (fmtO s); replace y4 := cell_past y4 (fmtO s); replace c0 := cell_past c0 (fmtO s); replace c1 := cell_past c1 (fmtO s); replace L := below_new L (fmtO s)))
      go_wp2_with fail
      go_ret
      exact ⟨rfl, L⟩
  · go_wp2_with fail
    refine (hwq _).mono ?_
    rintro r w2 ⟨h, l, x', rfl, wh, wl, x1, x2, N0, RQ, hb2⟩
    have g0 : w2.frozen? ⟨w.heap.size, 0, none⟩ = false := by exact ((bcell hb2).2 _ _ (by simp; omega)).trans (frozen_past z0 f0 _)
    have g1 : w2.frozen? ⟨w.heap.size, 1, none⟩ = false := by exact ((bcell hb2).2 _ _ (by simp; omega)).trans (frozen_past z0 f1 _)
    replace y0 := cell_on hb2 y0; replace y1 := cell_on hb2 y1; replace y2 := cell_on hb2 y2; replace y3 := cell_on hb2 y3; replace y4 := cell_on hb2 y4; replace c0 := cell_on hb2 c0; replace c1 := cell_on hb2 c1
    replace L := below_call L hb2
    have HV2 : Hid _ := (RQ.out s m b).trans HV.out
    clear HV RQ N0 hwq hb2 f0 f1 hb1 hfo
    go_upto_region 5 with fail
    obtain ⟨q0, q1⟩ := set2_in (w := w2) (b := w.heap.size) (.int .u64 h) (.int .u64 l) c0 c1
    have q2 := set2_cell (w := w2) (b := w.heap.size) (.int .u64 h) (.int .u64 l) (by omega) y0
    have q3 := set2_cell (w := w2) (b := w.heap.size) (.int .u64 h) (.int .u64 l) (by omega) y1
    have q4 := set2_cell (w := w2) (b := w.heap.size) (.int .u64 h) (.int .u64 l) (by omega) y2
    have q5 := set2_cell (w := w2) (b := w.heap.size) (.int .u64 h) (.int .u64 l) (by omega) y3
    have q6 := set2_cell (w := w2) (b := w.heap.size) (.int .u64 h) (.int .u64 l) (by omega) y4
    have q7 : Below w.heap.size w ((w2.setCell ⟨w.heap.size, 0, none⟩ (.int .u64 h)).setCell ⟨w.heap.size, 1, none⟩ (.int .u64 l)) := (L.setCell (Nat.le_refl _) _).setCell (Nat.le_refl _) _
    generalize (w2.setCell ⟨w.heap.size, 0, none⟩ (.int .u64 h)).setCell ⟨w.heap.size, 1, none⟩ (.int .u64 l) = W at *
    clear c0 c1 y0 y1 y2 y3 y4 g0 g1 L
    have c0 := q0; have c1 := q1; have y0 := q2; have y1 := q3; have y2 := q4; have y3 := q5; have y4 := q6; have L := q7
    clear q0 q1 q2 q3 q4 q5 q6 q7
    have HV := HV2
    clear HV2
    by_cases c : nn h l = 0
    · have hz : eq2 h l 0 0 = true := by rw [eq2_zero wh wl]; simp [c]
      have v := HV.out
      rw [c, rnd_zero] at v
      subst v
      go_wp2_with fail
      refine (hsg0 _).mono ?_
      rintro r w' ⟨rfl, rfl⟩
      go_wp2_with fail
      go_ret
      exact ⟨rfl, below_new L _⟩
    · have hz : eq2 h l 0 0 = false := by rw [eq2_zero wh wl]; simp [c]
      have v := HV.out
      obtain ⟨g, hg, hg2⟩ := mag_any s m b c x'
      have hsz := size_any s m b h l x' wh wl c (by omega) (by omega)
      unfold rnd at v
      rw [if_neg c, hg] at v
      rw [hg, fmtV_eq] at hsz
      have hsg := signed_any s b g (Int.natCast_nonneg g) hg2
      rw [v, fmtV_eq] at hsg
      have hrd := roundingOf_any m
      unfold rdV at hsz hrd
      generalize (g : Int) = G at *
      clear v HV hsg0 hg hg2
      go_wp2_with fail
      go_region_held3 (fun w' => w'.cell? ⟨w1.heap.size, 0, none⟩ = some (.int .i64 (fW s)) ∧ w'.cell? ⟨w1.heap.size, 1, none⟩ = some (.int .i64 (fQ s)) ∧ w'.cell? ⟨w1.heap.size, 2, none⟩ = some (.int .i64 (fL s)) ∧ w'.cell? ⟨w1.heap.size, 3, none⟩ = some (.int .u64 (fS s)) ∧ w'.cell? ⟨w1.heap.size, 4, none⟩ = some (.int .u64 (fI s)) ∧ w'.cell? ⟨w.heap.size, 0, none⟩ = some (.int .u64 h) ∧ w'.cell? ⟨w.heap.size, 1, none⟩ = some (.int .u64 l))
        (first | exact ⟨y0, y1, y2, y3, y4, c0, c1⟩ | (simp [go_sem, *]; done))
        (first
          | (go_at_call 29; refine (hrd _).mono ?_; rintro r w2 ⟨rfl, rfl⟩; replace y0 := cell_past y0 (rdO m); replace y1 := cell_past y1 (rdO m); replace y2 := cell_past y2 (rdO m); replace y3 := cell_past y3 (rdO m); replace y4 := cell_past y4 (rdO m); replace c0 := cell_past c0 (rdO m); replace c1 := cell_past c1 (rdO m); replace L := below_new L.drew (rdO m))
          | (go_at_call 28; refine (hsz _).mono ?_; rintro r w3 ⟨rfl, hb3⟩; replace y0 := cell_on hb3 y0; replace y1 := cell_on hb3 y1; replace y2 := cell_on hb3 y2; replace y3 := cell_on hb3 y3; replace y4 := cell_on hb3 y4; replace c0 := cell_on hb3 c0; replace c1 := cell_on hb3 c1; replace L := below_call L hb3)
          | (go_at_call 27; refine (hsg _).mono ?_; rintro r w4 ⟨rfl, rfl⟩; replace y0 := cell_past y0 (fmtO s); replace y1 := cell_past y1 (fmtO s); replace y2 := cell_past y2 (fmtO s); replace y3 := cell_past y3 (fmtO s); replace y4 := cell_past y4 (fmtO s); replace c0 := cell_past c0 (fmtO s); replace c1 := cell_past c1 (fmtO s); replace L := below_new L (fmtO s)))
      go_wp2_with fail
      go_ret
      exact ⟨rfl, L⟩
end Go.Proofs.Ytfbkiklopeebdaa

