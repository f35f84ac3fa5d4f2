/- The reference's Shift. -/
import Derived.Test.YtpcbammncaeimaaOdY
namespace Go.Proofs.Ytpcbammncaeimaa
open Go.RowKit
set_option linter.unusedVariables false
set_option linter.unusedSimpArgs false
set_option maxRecDepth 100000 in
theorem rwas (i : Nat) (g : Bool) (c : Int) (p : Nat) (hp : p < 16) (w : World) : Calls Try.prog 95 #[.agg #[.int .i64 i, .bool g, .int .i64 c], .int .i64 p] w fun r w' => r = .returned (.int .i64 (fr g i p)) ∧ Below w.heap.size w w' := by
  have q1 : wrap64 ((p : Int).tdiv 2) = ((p / 2 : Nat) : Int) := by
    rw [Int.tdiv_eq_ediv_of_nonneg (by omega)]
    unfold wrap64
    omega
  have hx := oxor p hp
  unfold fr
  cases g
  · simp only [Bool.false_eq_true, false_and, if_false]
    go_enter Try.func95, Try.ntmps95
    go_wp2_with fail
    go_ret
    exact ⟨rfl, sp_new (Below.refl _ _) _⟩
  · by_cases hi : p / 2 = i
    · have hi' : ((p : Int) / 2 == (i : Int)) = true := by rw [beq_iff_eq]; omega
      rw [if_pos ⟨rfl, hi⟩]
      generalize ot p = q at *
      clear hi q1
      go_enter Try.func95, Try.ntmps95
      go_wp2_with fail
      go_ret
      exact ⟨rfl, sp_new (Below.refl _ _) _⟩
    · have hi' : ((p : Int) / 2 == (i : Int)) = false := by rw [beq_eq_false_iff_ne]; omega
      rw [if_neg (fun q => hi q.2)]
      clear hi q1
      go_enter Try.func95, Try.ntmps95
      go_wp2_with fail
      go_ret
      exact ⟨rfl, sp_new (Below.refl _ _) _⟩
set_option maxRecDepth 100000 in
theorem rmore (i : Nat) (hi : i < 8) (g : Bool) (c : Int) (hc : -8589934592 ≤ c ∧ c ≤ 8589934592) (p : Nat) (w : World) : Calls Try.prog 96 #[.agg #[.int .i64 i, .bool g, .int .i64 c], .int .i64 p] w fun r w' => r = .returned (.int .i64 (gn i c p)) ∧ Below w.heap.size w w' := by
  obtain ⟨x, hx⟩ : ∃ x, 2 * i = x := ⟨_, rfl⟩
  obtain ⟨y, hy⟩ : ∃ y, x + 1 = y := ⟨_, rfl⟩
  have wx : IntKind.i64.wrap (2 * (i : Int)) = (x : Int) := by rw [IntKind.wrap_i64]; omega
  have wy : IntKind.i64.wrap ((x : Int) + 1) = (y : Int) := by rw [IntKind.wrap_i64]; omega
  have wn : IntKind.i64.wrap (-c) = -c := by rw [IntKind.wrap_i64]; omega
  unfold gn
  rw [hx, hy]
  by_cases q1 : p = x
  · rw [if_pos q1]
    subst q1
    clear hx hy hc hi
    go_enter Try.func96, Try.ntmps96
    go_wp2_with fail
    go_ret
    exact ⟨rfl, sp_new (Below.refl _ _) _⟩
  · have q1' : ¬ (p : Int) = (x : Int) := by omega
    rw [if_neg q1]
    by_cases q2 : p = y
    · rw [if_pos q2]
      subst q2
      clear hx hy hc hi q1
      go_enter Try.func96, Try.ntmps96
      go_wp2_with fail
      go_ret
      exact ⟨rfl, sp_new (Below.refl _ _) _⟩
    · have q2' : ¬ (p : Int) = (y : Int) := by omega
      rw [if_neg q2]
      clear hx hy hc hi q1 q2
      go_enter Try.func96, Try.ntmps96
      go_wp2_with fail
      go_ret
      exact ⟨rfl, sp_new (Below.refl _ _) _⟩
/-- Bounds of which those ahead of (p, q) are new. -/
def pq (m p q : Nat) (G M : Mx) : Mx := fun a b => if (a < p ∧ b < m) ∨ (a = p ∧ b < q) then G a b else M a b
theorem pq_step {m p q : Nat} (G M : Mx) (hq : q < m) : Agm m (ux (pq m p q G M) p q (G p q)) (pq m p (q + 1) G M) := fun a b ha hb => by
  unfold ux pq
  by_cases k : a = p ∧ b = q
  · rw [if_pos k, if_pos (by omega), k.1, k.2]
  · rw [if_neg k]
    by_cases r : (a < p ∧ b < m) ∨ (a = p ∧ b < q)
    · rw [if_pos r, if_pos (by omega)]
    · rw [if_neg r, if_neg (by omega)]
theorem pq_row {m p : Nat} (G M : Mx) : Agm m (pq m p m G M) (pq m (p + 1) 0 G M) := fun a b ha hb => by
  unfold pq
  by_cases r : (a < p ∧ b < m) ∨ (a = p ∧ b < m)
  · rw [if_pos r, if_pos (by omega)]
  · rw [if_neg r, if_neg (by omega)]
theorem pq_0 (m : Nat) (G M : Mx) : Agm m M (pq m 0 0 G M) := fun a b _ _ => by unfold pq; rw [if_neg (by omega)]
theorem pq_all (m : Nat) (G M : Mx) : Agm m (pq m m 0 G M) G := fun a b ha hb => by unfold pq; rw [if_pos (by omega)]
theorem Agm.trans {m : Nat} {A B C : Mx} (h : Agm m A B) (k : Agm m B C) : Agm m A C := fun a b ha hb => (h a b ha hb).trans (k a b ha hb)
/-- One sum, as the program reckons it. -/
def shv (g : Bool) (i : Nat) (c : Int) (M : Mx) (p q : Nat) : Int := IntKind.i64.wrap (IntKind.i64.wrap (M (fr g i p) (fr g i q) + gn i c p) + gn i c q)
def shG (g : Bool) (i : Nat) (c : Int) (M : Mx) : Mx := fun p q => if 17179869184 < shv g i c M p q then 17179869184 else shv g i c M p q
theorem shG_clp {n i : Nat} {T : Mx} (t : Tt n T) (g : Bool) {c : Int} (h1 : -8589934592 ≤ c) (h2 : c ≤ 8589934592) : Agr n (shG g i c T) (clp (mv g i c T)) := fun a b ha hb => by
  have q := mv_bd (i := i) t g h1 h2 ha hb
  have q1 := gn_bd2 (i := i) (c := c) (B := 8589934592) h1 h2 a
  have q3 := t.up _ _ (fr_lt2 (g := g) (i := i) ha) (fr_lt2 (g := g) (i := i) hb)
  have q4 := t.low (fr_lt2 (g := g) (i := i) ha) (fr_lt2 (g := g) (i := i) hb)
  have e : shv g i c T a b = mv g i c T a b := by
    unfold shv
    unfold mv at q ⊢
    have e1 : IntKind.i64.wrap (T (fr g i a) (fr g i b) + gn i c a) = T (fr g i a) (fr g i b) + gn i c a := by rw [IntKind.wrap_i64]; omega
    rw [e1, IntKind.wrap_i64]
    omega
  unfold shG clp
  rw [e]
  split <;> omega
set_option maxRecDepth 100000 in
set_option maxHeartbeats 3200000 in
theorem rshiftG (R : Rf) (n : Nat) (hn1 : 1 ≤ n) (hn : n ≤ 4) (e : Bool) (M : Mx) (i : Nat) (hi : i < n) (g : Bool) (c : Int) (hc : -8589934592 ≤ c ∧ c ≤ 8589934592) (kt : ∀ V X, Agr n X (shG g i c M) → RefAt V R n e X → Calls Try.prog 92 #[.pointer (some ⟨R.b, 0, none⟩)] V fun r w' => r = .returned (.tuple #[]) ∧ RefRsE w' R n e X ∧ Rgn R.lo R.hi V w') (w : World) (hR : R.hi ≤ w.heap.size) (h : RefAt w R n e M) :
    Calls Try.prog 70 #[.pointer (some ⟨R.b, 0, none⟩), .int .i64 i, .bool g, .int .i64 c] w fun r w' => r = .returned (.int .i64 0) ∧ (∃ X, Agr n X (shG g i c M) ∧ RefRsE w' R n e X) ∧ Rgn R.lo R.hi w w' := by
  obtain ⟨m, hm⟩ : ∃ m, 2 * n = m := ⟨_, rfl⟩
  have h8 : m ≤ 8 := by omega
  have wm : IntKind.i64.wrap (2 * (n : Int)) = (m : Int) := by rw [IntKind.wrap_i64]; omega
  have hm' : Hid (2 * n = m) := hm
  have hR' : Hid (R.hi ≤ w.heap.size) := hR
  have k1 := fun V hV => rhasT R n e M i (show Isv n i from ⟨by omega, by omega⟩) V hV
  have kf := fun V hV => rfork R n hn1 hn e M V hV
  have kw := fun p (hp : p < m) V => rwas i g c p (by omega) V
  have km := fun p V => rmore i (by omega) g c hc p V
  have d1 : decide (c < -8589934592) = false := by simp; omega
  have d2 : decide (8589934592 < c) = false := by simp; omega
  have frl : Hid (∀ a, a < m → fr g i a < m) := fun a ha => by have := fr_lt2 (g := g) (n := n) (i := i) (a := a) (by omega); omega
  clear hm hn1 hn hi hc hR
  go_enter Try.func70, Try.ntmps70
  go_upto_region 6 with (first
    | (go_at_call 74; refine (k1 _ h).mono ?_; rintro r w2 ⟨rfl, hw2⟩; subst w2)
    | (go_at_call 33; refine (kf _ h).mono ?_; rintro r w3 ⟨⟨F, rfl, f1, f2, hF⟩, g3⟩)
    | fail)
  replace h := h.on g3
  obtain ⟨W, hW⟩ : ∃ W, w3.alloc (.cells #[.int .i64 i, .bool g, .int .i64 c] 116) = W := ⟨_, rfl⟩
  have gW : Below w3.heap.size w3 W := by rw [← hW]; exact (Below.refl _ _).alloc (Nat.le_refl _) _
  have a0 : W.cell? ⟨w3.heap.size, 0, none⟩ = some (.int .i64 i) := by rw [← hW]; simp [go_sem]
  have a1 : W.cell? ⟨w3.heap.size, 1, none⟩ = some (.bool g) := by rw [← hW]; simp [go_sem]
  have a2 : W.cell? ⟨w3.heap.size, 2, none⟩ = some (.int .i64 c) := by rw [← hW]; simp [go_sem]
  replace h := h.on gW
  replace hF := hF.on gW
  have cc : Rgn R.lo R.hi w W := Rgn.of (sp_call g3 gW)
  have dF : Hid (R.hi ≤ F.lo ∧ F.hi ≤ w3.heap.size ∧ R.hi ≤ w3.heap.size) := ⟨by rw [f1]; exact hR'.out, f2, Nat.le_trans hR'.out g3.size⟩
  go_upto_region 7 with fail
  (try rw [hW])
  clear hW gW g3 f1 f2 kf k1 d1 d2
  go_wp2_with fail
  obtain ⟨G, hG⟩ : ∃ G, Hid (shG g i c M = G) := ⟨_, rfl⟩
  go_loopw [11] (fun j wr => ∃ (WR : World) (p : Nat) (X : Mx), WR = wr ∧ p ≤ m ∧ j = .int .i64 p ∧ RefAt wr R n e X ∧ Hid (Agm m X (pq m p 0 G M)) ∧ RefAt wr F n e M ∧ wr.cell? ⟨w3.heap.size, 0, none⟩ = some (.int .i64 i) ∧ wr.cell? ⟨w3.heap.size, 1, none⟩ = some (.bool g) ∧ wr.cell? ⟨w3.heap.size, 2, none⟩ = some (.int .i64 c) ∧ Rgn R.lo R.hi w wr) (fun j _ => m - (intOf j).toNat)
  case atStart => exact ⟨_, 0, M, rfl, by omega, rfl, h, pq_0 m G M, hF, a0, a1, a2, cc⟩
  case round =>
    clear h hF a0 a1 a2 cc
    obtain ⟨WR, p, X, rfl, hp, rfl, h, hX, hF, a0, a1, a2, cc⟩ := hrel
    have h0 := h.hn
    by_cases cp : p < m
    · have cp' : (p : Int) < (m : Int) := by omega
      go_wp2_with fail
      clear h0
      go_loopw [12] (fun j wr => ∃ (WS : World) (q : Nat) (Y : Mx), WS = wr ∧ q ≤ m ∧ j = .int .i64 q ∧ RefAt wr R n e Y ∧ Hid (Agm m Y (pq m p q G M)) ∧ RefAt wr F n e M ∧ wr.cell? ⟨w3.heap.size, 0, none⟩ = some (.int .i64 i) ∧ wr.cell? ⟨w3.heap.size, 1, none⟩ = some (.bool g) ∧ wr.cell? ⟨w3.heap.size, 2, none⟩ = some (.int .i64 c) ∧ Rgn R.lo R.hi w wr) (fun j _ => m - (intOf j).toNat)
      case atStart => exact ⟨_, 0, X, rfl, by omega, rfl, h, hX, hF, a0, a1, a2, cc⟩
      case round =>
        clear h hX hF a0 a1 a2 cc
        obtain ⟨WS, q, Y, rfl, hq, rfl, h, hY, hF, a0, a1, a2, cc⟩ := hrel
        have h0 := h.hn
        by_cases cq : q < m
        · have cq' : (q : Int) < (m : Int) := by omega
          have kwp := kw p cp
          have kwq := kw q cq
          have kmp := km p
          have kmq := km q
          have wq : IntKind.i64.wrap ((q : Int) + 1) = ((q + 1 : Nat) : Int) := by rw [IntKind.wrap_i64]; omega
          have lp := frl.out p cp
          have lq := frl.out q cq
          have eG : Hid ((if 17179869184 < shv g i c M p q then 17179869184 else shv g i c M p q) = G p q) := by rw [← hG.out]; rfl
          have ev : Hid (IntKind.i64.wrap (IntKind.i64.wrap (M (fr g i p) (fr g i q) + gn i c p) + gn i c q) = shv g i c M p q) := rfl
          generalize fr g i p = x at *
          generalize fr g i q = y at *
          generalize gn i c p = s1 at *
          generalize gn i c q = s2 at *
          generalize shv g i c M p q = vv at *
          clear kw km kt
          go_upto_region 13 with fail
          have hall : ∀ X9, Below WS.heap.size WS X9 → (X9.cell? ⟨w3.heap.size, 0, none⟩ = some (.int .i64 i) ∧ X9.cell? ⟨w3.heap.size, 1, none⟩ = some (.bool g) ∧ X9.cell? ⟨w3.heap.size, 2, none⟩ = some (.int .i64 c)) := fun X9 cc => ⟨sp_cell_on cc a0, sp_cell_on cc a1, sp_cell_on cc a2⟩
          have bb : Below WS.heap.size WS WS := Below.refl _ _
          go_cut [13, 14] from 56 to 61 (fun s u X => ∃ W4 : World, W4 = X ∧ s = .int .i64 x ∧ u = .int .i64 y ∧ Below WS.heap.size WS X)
          case first =>
            go_region_held3 (fun w' => w'.cell? ⟨w3.heap.size, 0, none⟩ = some (.int .i64 i) ∧ w'.cell? ⟨w3.heap.size, 1, none⟩ = some (.bool g) ∧ w'.cell? ⟨w3.heap.size, 2, none⟩ = some (.int .i64 c)) (exact hall _ (by first | with_reducible exact bb | with_reducible exact bb.drew))
              (first
                | (go_at_call 95; (with_reducible refine (kwp _).mono ?_); rintro r X1 ⟨rfl, g9⟩; replace bb := sp_call (show Below WS.heap.size WS _ by first | with_reducible exact bb | with_reducible exact bb.drew) g9; clear g9)
                | (go_at_call 95; (with_reducible refine (kwq _).mono ?_); rintro r X2 ⟨rfl, g9⟩; replace bb := sp_call (show Below WS.heap.size WS _ by first | with_reducible exact bb | with_reducible exact bb.drew) g9; clear g9)
                | fail)
            all_goals go_wp2_with fail
            all_goals go_meet
            all_goals exact ⟨_, rfl, rfl, rfl, by first | exact bb | exact bb.drew⟩
          case rest =>
            obtain ⟨W4, rfl, rfl, rfl, c4⟩ := hcut
            replace a0 := sp_cell_on c4 a0; replace a1 := sp_cell_on c4 a1; replace a2 := sp_cell_on c4 a2
            replace h := h.on c4
            replace hF := hF.on c4
            replace cc := cc.trans (Rgn.of c4)
            clear c4 bb hall kwp kwq h0
            have fs := hF.hs
            have fr1 := hF.hr x (by have := hm'.out; omega)
            have fm1 := hF.hm x y (by have := hm'.out; omega) (by have := hm'.out; omega)
            rw [hm'.out] at fs fr1
            have x1 := rix2 F.pb m F.pc x lp
            have x2 := rix (F.rb x) m (F.rc x) y lq
            generalize M x y = z at *
            have hall : ∀ X9, Below W4.heap.size W4 X9 → (X9.cell? ⟨w3.heap.size, 0, none⟩ = some (.int .i64 i) ∧ X9.cell? ⟨w3.heap.size, 1, none⟩ = some (.bool g) ∧ X9.cell? ⟨w3.heap.size, 2, none⟩ = some (.int .i64 c) ∧ X9.cell? ⟨F.b, 1, none⟩ = some (.slice (some ⟨F.pb, 0, none⟩) m F.pc) ∧ X9.cell? ⟨F.pb, x, none⟩ = some (.slice (some ⟨F.rb x, 0, none⟩) m (F.rc x)) ∧ X9.cell? ⟨F.rb x, y, none⟩ = some (.int .i64 z)) := fun X9 cc => ⟨sp_cell_on cc a0, sp_cell_on cc a1, sp_cell_on cc a2, sp_cell_on cc fs, sp_cell_on cc fr1, sp_cell_on cc fm1⟩
            have bb : Below W4.heap.size W4 W4 := Below.refl _ _
            have ev2 := ev.out
            clear ev
            go_upto_region 14 with fail
            go_cut [15] from 62 to 79 (fun s X => ∃ W5 : World, W5 = X ∧ s = .int .i64 vv ∧ Below W4.heap.size W4 X)
            case first =>
              go_region_held3 (fun w' => w'.cell? ⟨w3.heap.size, 0, none⟩ = some (.int .i64 i) ∧ w'.cell? ⟨w3.heap.size, 1, none⟩ = some (.bool g) ∧ w'.cell? ⟨w3.heap.size, 2, none⟩ = some (.int .i64 c) ∧ w'.cell? ⟨F.b, 1, none⟩ = some (.slice (some ⟨F.pb, 0, none⟩) m F.pc) ∧ w'.cell? ⟨F.pb, x, none⟩ = some (.slice (some ⟨F.rb x, 0, none⟩) m (F.rc x)) ∧ w'.cell? ⟨F.rb x, y, none⟩ = some (.int .i64 z)) (exact hall _ (by first | with_reducible exact bb | with_reducible exact bb.drew))
                (first
                  | (go_at_call 96; (with_reducible refine (kmp _).mono ?_); rintro r X1 ⟨rfl, g9⟩; replace bb := sp_call (show Below W4.heap.size W4 _ by first | with_reducible exact bb | with_reducible exact bb.drew) g9; clear g9)
                  | (go_at_call 96; (with_reducible refine (kmq _).mono ?_); rintro r X2 ⟨rfl, g9⟩; replace bb := sp_call (show Below W4.heap.size W4 _ by first | with_reducible exact bb | with_reducible exact bb.drew) g9; clear g9)
                  | fail)
              all_goals go_wp2_with fail
              all_goals go_meet
              all_goals exact ⟨_, rfl, by first | rfl | (rw [← ev2]), by first | exact bb | exact bb.drew⟩
            case rest =>
              obtain ⟨W5, rfl, rfl, c5⟩ := hcut
              replace a0 := sp_cell_on c5 a0; replace a1 := sp_cell_on c5 a1; replace a2 := sp_cell_on c5 a2
              replace h := h.on c5
              replace hF := hF.on c5
              replace cc := cc.trans (Rgn.of c5)
              clear c5 bb hall kmp kmq fs fr1 fm1 x1 x2 ev2
              have pn : p < 2 * n := by have := hm'.out; omega
              have qn : q < 2 * n := by have := hm'.out; omega
              have hs := h.hs
              have r1 := h.hr p pn
              have m1 := h.hm p q pn qn
              have f1 := h.fm p q pn
              rw [hm'.out] at hs r1
              have x1 := rix2 R.pb m R.pc p cp
              have x2 := rix (R.rb p) m (R.rc p) q cq
              have hset := h.set pn qn (G p q)
              have c6 := cc.set (b := R.rb p) (j := q) (h.ir p pn).1 (h.ir p pn).2 (.int .i64 (G p q))
              have o1 := (Rgn.refl R.lo R.hi W5).set (b := R.rb p) (j := q) (h.ir p pn).1 (h.ir p pn).2 (.int .i64 (G p q))
              have hF2 := hF.rgn o1 (Or.inl dF.out.1)
              have b0 := o1.cell (Or.inl dF.out.2.2) a0
              have b1 := o1.cell (Or.inl dF.out.2.2) a1
              have b2 := o1.cell (Or.inl dF.out.2.2) a2
              have hY2 : Hid (Agm m (ux Y p q (G p q)) (pq m p (q + 1) G M)) := (ux_agm hY.out p q (G p q)).trans (pq_step G M cq)
              have eG2 := eG.out
              generalize ux Y p q (G p q) = Y2 at *
              generalize G p q = gv at *
              generalize Y p q = yv at *
              clear h hF hY a0 a1 a2 cc o1 pn qn eG hG lp lq
              by_cases lt : 17179869184 < vv
              · rw [if_pos lt] at eG2
                subst eG2
                go_wp2_with fail
                exact ⟨⟨_, q + 1, Y2, rfl, by omega, by simp, hset, hY2, hF2, b0, b1, b2, c6⟩, by simp [intOf]; omega⟩
              · rw [if_neg lt] at eG2
                subst eG2
                go_wp2_with fail
                exact ⟨⟨_, q + 1, Y2, rfl, by omega, by simp, hset, hY2, hF2, b0, b1, b2, c6⟩, by simp [intOf]; omega⟩
        · have eq : q = m := by omega
          subst eq
          clear cq hq
          have wp1 : IntKind.i64.wrap ((p : Int) + 1) = ((p + 1 : Nat) : Int) := by rw [IntKind.wrap_i64]; omega
          have hY2 : Hid (Agm q Y (pq q (p + 1) 0 G M)) := hY.out.trans (pq_row G M)
          clear hY
          go_wp2_with fail
          go_roundw
          case rel => exact ⟨_, p + 1, Y, rfl, by omega, by first | rfl | go_num, h, hY2, hF, a0, a1, a2, cc⟩
          case measure => simp [intOf]; omega
    · have ep : p = m := by omega
      subst ep
      clear cp hp
      have ag : Agr n X (shG g i c M) := fun a b ha hb => by
        have e1 := hm'.out
        rw [hG.out]
        exact (hX.out.trans (pq_all p G M)) a b (by omega) (by omega)
      have kt2 := kt WR X ag h
      have ag' : Hid (Agr n X (shG g i c M)) := ag
      clear kt ag hX hF a0 a1 a2 kw km
      go_wp2_with (first
        | (go_at_call 92; refine kt2.mono ?_; rintro r w5 ⟨rfl, hR5, c5⟩; replace cc := cc.trans c5)
        | fail)
      go_ret
      exact ⟨rfl, ⟨X, ag'.out, hR5⟩, cc⟩
end Go.Proofs.Ytpcbammncaeimaa

