/- SpanTurns: all ways. -/
import Derived.Test.YtgdknlnpfnifiaaGreatTSpTy
import Derived.Test.YtgdknlnpfnifiaaGreatTSpTb
import Derived.Test.YtgdknlnpfnifiaaGreatTSpTw
import Derived.Test.YtgdknlnpfnifiaaGreatTG22
import Derived.Test.YtgdknlnpfnifiaaGreatTG21
namespace Go.Proofs.YtgdknlnpfnifiaaGreat
open Go.RowKit
set_option linter.unusedVariables false
set_option linter.unusedSimpArgs false
theorem tdrew_b {e r : Ending} {V w' : World} (h : e = r ∧ ∃ n, w' = V.drewN n) : e = r ∧ Below V.heap.size V w' := by
  obtain ⟨h1, n, rfl⟩ := h
  exact ⟨h1, below_drewN (Below.refl _ _) n⟩
def gST : Bool → Bool → Int → Int
  | false, false, x => x
  | true, true, x => x
  | s, t, x => cvtF s t 0 x
theorem gST_word (s t : Bool) (x : Int) (h : Word x) : Word (gST s t x) := by
  cases s <;> cases t
  · exact h
  · exact bk_word false true 0 x
  · exact bk_word true false 0 x
  · exact h
theorem refmX (s t : Bool) : ∃ kb : Nat, (∀ V, Calls Tryz.prog 47 #[.int .i64 (fb s), .int .i64 (fb t)] V fun e w' => e = .returned (.func (.func kb) #[] #[]) ∧ Below V.heap.size V w') ∧ (∀ args w, (callFunc kb args).run Tryz.prog w = .ok (.enter kb args) w)
    ∧ ∀ x X, Word x → Calls Tryz.prog kb (#[.int .u64 x] ++ #[]) X fun e X' => e = .returned (.int .u64 (gST s t x)) ∧ Below X.heap.size X X' := by
  cases s <;> cases t
  · exact ⟨_, refm_00, enters_of Tryz.func114 (by kernel_rfl) rfl, fun x X hx => rf2_any x X⟩
  · exact ⟨_, refm_01, enters_of Tryz.func111 (by kernel_rfl) rfl, fun x X hx => rf1_any x hx X⟩
  · exact ⟨_, refm_10, enters_of Tryz.func113 (by kernel_rfl) rfl, fun x X hx => widen_any x hx X⟩
  · exact ⟨_, refm_11, enters_of Tryz.func114 (by kernel_rfl) rfl, fun x X hx => rf2_any x X⟩
theorem ends_word {e1 : Bool} {a b : Int} (ha : Word a) (hb : Word b) : ∀ q ∈ endsL [(e1, a, b)], Word q := by
  intro q hq
  cases e1
  · have : q = a ∨ q = b := by simpa [endsL] using hq
    rcases this with rfl | rfl
    · exact ha
    · exact hb
  · simp [endsL] at hq
theorem to_prog (s t : Bool) (e1 : Bool) (a b : Int) (ha : Word a) (hb : Word b) : KT9 13 #[.int .i64 (fb s), .int .i64 (fb t), .agg #[.bool e1, .int .u64 a, .int .u64 b]] (.tuple #[.agg #[.bool (TF t ((endsL [(e1, a, b)]).map (gST s t))).1, .int .u64 (TF t ((endsL [(e1, a, b)]).map (gST s t))).2.1, .int .u64 (TF t ((endsL [(e1, a, b)]).map (gST s t))).2.2], .int .i64 (trapP (WyF t) (LF t) 2 ((endsL [(e1, a, b)]).map (gST s t)))]) := by
  obtain ⟨kb, hr, eby, hby⟩ := refmX s t
  exact to_of (fb s) (fb t) e1 a b kb #[] (gST s t) Word _ _ _ _ hr eby hby (ends_word ha hb) (toldU t _ (fun x hx => by
    obtain ⟨q, hq, rfl⟩ := List.mem_map.1 hx
    exact gST_word s t q (ends_word ha hb q hq)))
theorem told2 {t : Bool} {x y r q : Int} (hx : Res t x r) (hy : Res t y q) (l0 : -fI t < r) (rq : r ≤ q) (h0 : q < fI t) : TF t [x, y] = (false, mk t r, mk t q) ∧ trapP (WyF t) (LF t) 2 [x, y] = 0 := by
  have e1 := res_rnk hx
  have e2 := res_rnk hy
  refine told_fin (fun v hv => ?_) l0 h0 ⟨x, by simp, e1⟩ ⟨y, by simp, e2⟩ (fun v hv => ?_)
  · have : v = x ∨ v = y := by simpa using hv
    rcases this with rfl | rfl
    · exact allR_of hx
    · exact allR_of hy
  · have : v = x ∨ v = y := by simpa using hv
    rcases this with rfl | rfl
    · rw [e1]; omega
    · rw [e2]; omega
theorem trofR {s : Bool} {x y r q : Int} (hx : Word x) (hy : Word y) (rx : Res s x r) (ry : Res s y q) (r1 : -fI s < r) (rq : r ≤ q) (q2 : q < fI s) (w : World) :
    Calls Tryz.prog 33 #[.int .i64 (fb s), .int .u64 x, .int .u64 y] w fun e w' => e = .returned (.agg #[.bool false, .int .u64 (mk s r), .int .u64 (mk s q)]) ∧ Below w.heap.size w w' := by
  have h := rofF_any s x y hx hy w
  rw [of_res rx ry r1 rq q2] at h
  exact h
theorem rnoneB (V : World) : Calls Tryz.prog 28 #[] V fun e w' => e = .returned (.agg #[.bool true, .int .u64 0, .int .u64 0]) ∧ Below V.heap.size V w' := (rnoneF V).mono fun e w' h => ⟨h.1, by rw [h.2]; exact sp_new (Below.refl _ _) _⟩
theorem rnoneC (V : World) : Calls Tryz.prog 56 #[] V fun e w' => e = .returned (.agg #[.bool true, .int .i64 0, .int .i64 0]) ∧ Below V.heap.size V w' := (rnoneI V).mono fun e w' h => ⟨h.1, by rw [h.2]; exact sp_new (Below.refl _ _) _⟩
theorem to_both (s t : Bool) (e1 : Bool) (a b : Int) (ha : Word a) (hb : Word b) (r : rRF s e1 a b = true) : ∃ (p : Bool × Int × Int) (u : Int), KT9 13 #[.int .i64 (fb s), .int .i64 (fb t), .agg #[.bool e1, .int .u64 a, .int .u64 b]] (.tuple #[.agg #[.bool p.1, .int .u64 p.2.1, .int .u64 p.2.2], .int .i64 u])
    ∧ KT9 14 #[.int .i64 (fb s), .int .i64 (fb t), .agg #[.bool e1, .int .u64 a, .int .u64 b]] (.tuple #[.agg #[.bool p.1, .int .u64 p.2.1, .int .u64 p.2.2], .int .i64 u]) := by
  refine ⟨_, _, to_prog s t e1 a b ha hb, ?_⟩
  cases e1
  · obtain ⟨x, y, x1, xy, y2, rfl, rfl⟩ := right_mk ha hb r
    have m : (endsL [(false, mk s x, mk s y)]).map (gST s t) = [gST s t (mk s x), gST s t (mk s y)] := rfl
    rw [m]
    cases s <;> cases t
    · obtain ⟨q1, q2⟩ := told2 (res_mk x1 (show x < fI false by omega)) (res_mk (show -fI false < y by omega) y2) x1 xy y2
      show KT9 _ _ (.tuple #[.agg #[.bool (TF false [mk false x, mk false y]).1, .int .u64 (TF false [mk false x, mk false y]).2.1, .int .u64 (TF false [mk false x, mk false y]).2.2], .int .i64 (trapP (WyF false) (LF false) 2 [mk false x, mk false y])])
      rw [q1, q2]
      exact rto_s 0 (mk false x) (mk false y)
    · have rx := cvt_res false true x1 (show x < fI false by omega)
      have ry := cvt_res false true (show -fI false < y by omega) y2
      have wx := bk_word false true 0 (mk false x)
      have wy := bk_word false true 0 (mk false y)
      obtain ⟨q1, q2⟩ := told_setF (s := true) (xs := [cvtF false true 0 (mk false x), cvtF false true 0 (mk false y)]) (ys := [cvtF false true 0 (mk false x), cvtF false true 0 (mk false y)]) (fun v hv => by
        have : v = cvtF false true 0 (mk false x) ∨ v = cvtF false true 0 (mk false y) := by simpa using hv
        rcases this with rfl | rfl
        · exact allR_of rx
        · exact allR_of ry) (fun v => Iff.rfl)
      show KT9 _ _ (.tuple #[.agg #[.bool (meetP (WyF true) (hullP (WyF true) [cvtF false true 0 (mk false x), cvtF false true 0 (mk false y)]) (false, (LF true).least, (LF true).most)).1, .int .u64 (meetP (WyF true) (hullP (WyF true) [cvtF false true 0 (mk false x), cvtF false true 0 (mk false y)]) (false, (LF true).least, (LF true).most)).2.1, .int .u64 (meetP (WyF true) (hullP (WyF true) [cvtF false true 0 (mk false x), cvtF false true 0 (mk false y)]) (false, (LF true).least, (LF true).most)).2.2], .int .i64 (trapP (WyF true) (LF true) 2 [cvtF false true 0 (mk false x), cvtF false true 0 (mk false y)])])
      rw [q1, q2]
      refine rto_n (mk false x) (mk false y) (cvtF false true 0 (mk false x)) (cvtF false true 0 (mk false y)) _ _ _ _ (rnarrow_any 0 _ ha) (rnarrow_any 0 _ hb) (fun bk cap V c0 c1 => ?_)
      exact rclipF true (cvtF false true 0 (mk false x)) [cvtF false true 0 (mk false x), cvtF false true 0 (mk false y)] rfl (by simp) (fun v hv => by
        have : v = cvtF false true 0 (mk false x) ∨ v = cvtF false true 0 (mk false y) := by simpa using hv
        rcases this with rfl | rfl
        · exact wx
        · exact wy) bk cap V (fun j v hj => by
        rcases j with _ | _ | j
        · simp at hj; subst hj; exact c0
        · simp at hj; subst hj; exact c1
        · simp at hj)
    · have rx := cvt_res true false x1 (show x < fI true by omega)
      have ry := cvt_res true false (show -fI true < y by omega) y2
      have wx := bk_word true false 0 (mk true x)
      have wy := bk_word true false 0 (mk true y)
      have f1 := cv_wide x1 (show x < fI true by omega)
      have f2 := cv_wide (show -fI true < y by omega) y2
      have mm := cv_mono true false xy
      obtain ⟨q1, q2⟩ := told2 rx ry f1.1 mm f2.2
      show KT9 _ _ (.tuple #[.agg #[.bool (TF false [cvtF true false 0 (mk true x), cvtF true false 0 (mk true y)]).1, .int .u64 (TF false [cvtF true false 0 (mk true x), cvtF true false 0 (mk true y)]).2.1, .int .u64 (TF false [cvtF true false 0 (mk true x), cvtF true false 0 (mk true y)]).2.2], .int .i64 (trapP (WyF false) (LF false) 2 [cvtF true false 0 (mk true x), cvtF true false 0 (mk true y)])])
      rw [q1, q2]
      exact rto_w (mk true x) (mk true y) _ _ _ _ _ (rwiden_any _ ha) (rwiden_any _ hb) (trofR wx wy rx ry f1.1 mm f2.2)
    · obtain ⟨q1, q2⟩ := told2 (res_mk x1 (show x < fI true by omega)) (res_mk (show -fI true < y by omega) y2) x1 xy y2
      show KT9 _ _ (.tuple #[.agg #[.bool (TF true [mk true x, mk true y]).1, .int .u64 (TF true [mk true x, mk true y]).2.1, .int .u64 (TF true [mk true x, mk true y]).2.2], .int .i64 (trapP (WyF true) (LF true) 2 [mk true x, mk true y])])
      rw [q1, q2]
      exact rto_s 1 (mk true x) (mk true y)
  · exact rto_e (fb s) (fb t) a b rnoneB
theorem wpF_dom (s : Bool) (x : Int) : WyI.dom (wpF s x) := by
  show -9223372036854775808 ≤ wpF s x ∧ wpF s x ≤ 9223372036854775807
  unfold wpF
  split
  · rename_i h
    unfold inI at h
    rw [Bool.and_eq_true] at h
    have := of_decide_eq_true h.2
    omega
  · split <;> exact ⟨by decide, by decide⟩
theorem rbit3 (w : World) : Calls Tryz.prog 21 #[.int .i64 3] w fun e w' => e = .returned (.int .i64 4) ∧ Below w.heap.size w w' := by
  go_enter Tryz.func21, Tryz.ntmps21
  go_wp2_with fail
  go_ret
  exact ⟨rfl, Below.refl _ _⟩
theorem ti_prog (s : Bool) (e1 : Bool) (a b : Int) (ha : Word a) (hb : Word b) : KT9 15 #[.int .i64 (fb s), .agg #[.bool e1, .int .u64 a, .int .u64 b]] (.tuple #[.agg #[.bool (TI ((endsL [(e1, a, b)]).map (wpF s))).1, .int .i64 (TI ((endsL [(e1, a, b)]).map (wpF s))).2.1, .int .i64 (TI ((endsL [(e1, a, b)]).map (wpF s))).2.2], .int .i64 (trapP WyI LnC 4 ((endsL [(e1, a, b)]).map (wpF s)))]) := by
  have h := toint_of (fb s) e1 a b (wpF s) Word _ _ _ _ (fun q x X hx c => by
    have := ti1_any (fb s) q x X hx c
    rw [fb_eq] at this
    exact this) (ends_word ha hb) (toldC _ (fun x hx => by
    obtain ⟨q, hq, rfl⟩ := List.mem_map.1 hx
    exact wpF_dom s q))
  exact h
theorem ti_both (s : Bool) (e1 : Bool) (a b : Int) (ha : Word a) (hb : Word b) (r : rRF s e1 a b = true) : ∃ (p : Bool × Int × Int) (u : Int), (p = (true, 0, 0) ∨ p.1 = false ∧ -2147483648 ≤ p.2.1 ∧ p.2.1 ≤ p.2.2 ∧ p.2.2 ≤ 2147483647) ∧ KT9 15 #[.int .i64 (fb s), .agg #[.bool e1, .int .u64 a, .int .u64 b]] (.tuple #[.agg #[.bool p.1, .int .i64 p.2.1, .int .i64 p.2.2], .int .i64 u])
    ∧ KT9 16 #[.int .i64 (fb s), .agg #[.bool e1, .int .u64 a, .int .u64 b]] (.tuple #[.agg #[.bool p.1, .int .i64 p.2.1, .int .i64 p.2.2], .int .i64 u]) := by
  refine ⟨_, _, ?_, ti_prog s e1 a b ha hb, ?_⟩
  · cases e1
    · obtain ⟨x, y, x1, xy, y2, rfl, rfl⟩ := right_mk ha hb r
      have m := trn_mono s xy
      show TI [wpF s (mk s x), wpF s (mk s y)] = _ ∨ (TI [wpF s (mk s x), wpF s (mk s y)]).1 = false ∧ -2147483648 ≤ (TI [wpF s (mk s x), wpF s (mk s y)]).2.1 ∧ (TI [wpF s (mk s x), wpF s (mk s y)]).2.1 ≤ (TI [wpF s (mk s x), wpF s (mk s y)]).2.2 ∧ (TI [wpF s (mk s x), wpF s (mk s y)]).2.2 ≤ 2147483647
      rw [wp_mk x1 (by omega), wp_mk (by omega) y2]
      obtain ⟨e1, _⟩ := told_two (u := max (-2147483649) (min 2147483648 (trn s x))) (v := max (-2147483649) (min 2147483648 (trn s y))) (by omega)
      rw [e1]
      split
      · exact Or.inl rfl
      · right
        refine ⟨rfl, ?_, ?_, ?_⟩ <;> dsimp only <;> omega
    · exact Or.inl rfl
  · cases e1
    · obtain ⟨x, y, x1, xy, y2, rfl, rfl⟩ := right_mk ha hb r
      have q := told_wp x1 xy y2
      have q1 := congrArg Prod.fst q
      have q2 := congrArg Prod.snd q
      dsimp only at q1 q2
      show KT9 _ _ (.tuple #[.agg #[.bool (TI [wpF s (mk s x), wpF s (mk s y)]).1, .int .i64 (TI [wpF s (mk s x), wpF s (mk s y)]).2.1, .int .i64 (TI [wpF s (mk s x), wpF s (mk s y)]).2.2], .int .i64 (trapP WyI LnC 4 [wpF s (mk s x), wpF s (mk s y)])])
      rw [q1, q2]
      exact rti_n (fb s) (mk s x) (mk s y) _ _ _ _ _ _ _ _ _ (fun V => (rtoInt3_any s _ ha V).mono fun e w' h => tdrew_b h) (fun V => (rtoInt3_any s _ hb V).mono fun e w' h => tdrew_b h) rbit3 (fun V => (rless_any s _ _ ha word_0 V).mono fun e w' h => tdrew_b h) (fun V => (rless_any s _ _ hb word_0 V).mono fun e w' h => tdrew_b h) rnoneC (rofI_any _ _)
    · exact rti_e (fb s) a b rnoneC
theorem fi_both (s : Bool) (p : Bool × Int × Int) (hp : p = (true, 0, 0) ∨ p.1 = false ∧ -2147483648 ≤ p.2.1 ∧ p.2.1 ≤ p.2.2 ∧ p.2.2 ≤ 2147483647) : ∃ g : Bool × Int × Int, KT9 17 #[.int .i64 (fb s), .agg #[.bool p.1, .int .i64 p.2.1, .int .i64 p.2.2]] (.agg #[.bool g.1, .int .u64 g.2.1, .int .u64 g.2.2])
    ∧ KT9 18 #[.int .i64 (fb s), .agg #[.bool p.1, .int .i64 p.2.1, .int .i64 p.2.2]] (.agg #[.bool g.1, .int .u64 g.2.1, .int .u64 g.2.2]) := by
  obtain ⟨e1, a, b⟩ := p
  have dom : ∀ q ∈ endsL [(e1, a, b)], -9223372036854775808 ≤ q ∧ q ≤ 9223372036854775807 := by
    intro q hq
    cases e1
    · have : q = a ∨ q = b := by simpa [endsL] using hq
      rcases hp with hp | hp
      · cases hp
      · dsimp only at hp
        omega
    · simp [endsL] at hq
  have P := fint_of (fb s) e1 a b (fiF s) (fun x => -9223372036854775808 ≤ x ∧ x ≤ 9223372036854775807) _ _ _ _ (fun q x X hx c => by
    have := fi1_any (fb s) q x X hx c
    rw [fb_eq] at this
    exact this) dom (toldU s _ (fun x hx => by
    obtain ⟨q, hq, rfl⟩ := List.mem_map.1 hx
    exact rnd_word _ _ _ _ _))
  refine ⟨_, P, ?_⟩
  cases e1
  · obtain ⟨h1, h2, h3⟩ : -2147483648 ≤ a ∧ a ≤ b ∧ b ≤ 2147483647 := by
      rcases hp with hp | hp
      · cases hp
      · exact hp.2
    have ra := fi_res s a
    have rb := fi_res s b
    have f1 := fi_fin s h1 (show a ≤ 2147483647 by omega)
    have f2 := fi_fin s (show -2147483648 ≤ b by omega) h3
    have mm := rk_mono s h2 0
    obtain ⟨q1, q2⟩ := told2 ra rb f1.1 mm f2.2
    show KT9 _ _ (.agg #[.bool (TF s [rnd s 0 (decide (a < 0)) a.natAbs 0, rnd s 0 (decide (b < 0)) b.natAbs 0]).1, .int .u64 (TF s [rnd s 0 (decide (a < 0)) a.natAbs 0, rnd s 0 (decide (b < 0)) b.natAbs 0]).2.1, .int .u64 (TF s [rnd s 0 (decide (a < 0)) a.natAbs 0, rnd s 0 (decide (b < 0)) b.natAbs 0]).2.2])
    rw [q1]
    exact rfi_n (fb s) a b _ _ _ _ _ (rfrom3_any s 0 a (by omega) (by omega)) (rfrom3_any s 0 b (by omega) (by omega)) (trofR (rnd_word _ _ _ _ _) (rnd_word _ _ _ _ _) ra rb f1.1 mm f2.2)
  · exact rfi_e (fb s) a b rnoneB
theorem law_turns (p q : Int) (e1 : Bool) (a b : Int) (ha : Word a) (hb : Word b) (w : World) :
    Calls Tryz.prog 4 #[.int .i64 p, .int .i64 q, .agg #[.bool e1, .int .u64 a, .int .u64 b]] w fun e w' => e = .returned (.bool true) ∧ Below w.heap.size w w' := by
  have KF : ∀ p : Int, KT9 5 #[.int .i64 p] (.int .i64 (fb (p == 1))) := fun p V => (format8 p V).mono fun e w' h => b_eq h
  refine tu_all p q (fb (p == 1)) (fb (q == 1)) e1 a b _ (KF p) (KF q) (rrightF_any (p == 1) e1 a b ha hb) live_any (fun r => ?_) w
  obtain ⟨⟨pe, pl, ph⟩, tp, t1, t2⟩ := to_both (p == 1) (q == 1) e1 a b ha hb r
  obtain ⟨⟨ne, nl, nh⟩, tn, hn, n1, n2⟩ := ti_both (p == 1) e1 a b ha hb r
  obtain ⟨⟨ge, gl, gh⟩, g1, g2⟩ := fi_both (p == 1) (ne, nl, nh) hn
  exact ⟨pe, ne, ge, pl, ph, tp, nl, nh, tn, gl, gh, t1, t2, n1, n2, g1, g2⟩
end Go.Proofs.YtgdknlnpfnifiaaGreat


