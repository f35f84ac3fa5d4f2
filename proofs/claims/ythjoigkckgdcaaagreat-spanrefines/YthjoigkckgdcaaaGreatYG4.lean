/- Texts of the proof, put together. -/
import Derived.Test.YthjoigkckgdcaaaGreatYSpFl
import Derived.Deep.DeepCutAuto
import Derived.Test.YthjoigkckgdcaaaGreatYG6
import Derived.Test.YthjoigkckgdcaaaGreatYSpBdf
import Derived.Test.YthjoigkckgdcaaaGreatYSpHo
import Derived.Test.YthjoigkckgdcaaaGreatYSpSta
import Derived.Test.YthjoigkckgdcaaaGreatYG5
import Derived.Test.YthjoigkckgdcaaaGreatYSpLv
import Derived.Test.YthjoigkckgdcaaaGreatYG3
namespace Go.Proofs.YthjoigkckgdcaaaGreat
open Go.RowKit
set_option linter.unusedVariables false
set_option linter.unusedSimpArgs false
def KR8 (F : Nat) (args : Array Value) (r : Value) : Prop := ∀ V, Calls Tryz.prog F args V fun e w' => e = .returned r ∧ Below V.heap.size V w'
def RsOk (op f : Int) (e1 : Bool) (a b : Int) (e2 : Bool) (c d : Int) : Prop := ∃ (pe qe : Bool) (pl ph ql qh : Int), KR8 38 #[.int .i64 f, .int .i64 op, .agg #[.bool e1, .int .u64 a, .int .u64 b], .agg #[.bool e2, .int .u64 c, .int .u64 d]] (.tuple #[.agg #[.bool pe, .int .u64 pl, .int .u64 ph], .agg #[.bool qe, .int .u64 ql, .int .u64 qh]]) ∧ KR8 39 #[.int .i64 f, .int .i64 op, .agg #[.bool e1, .int .u64 a, .int .u64 b], .agg #[.bool e2, .int .u64 c, .int .u64 d]] (.tuple #[.agg #[.bool pe, .int .u64 pl, .int .u64 ph], .agg #[.bool qe, .int .u64 ql, .int .u64 qh]])
set_option maxRecDepth 100000 in
set_option maxHeartbeats 6400000 in
theorem rs_all (op p f : Int) (e1 : Bool) (a b : Int) (e2 : Bool) (c d : Int) (RT : Bool) (kf : KR8 15 #[.int .i64 p] (.int .i64 f)) (kr : KR8 22 #[.agg #[.int .i64 p, .bool e1, .int .u64 a, .int .u64 b, .bool e2, .int .u64 c, .int .u64 d]] (.bool RT)) (hl : KR8 23 #[] (.bool true)) (main : RT = true → RsOk op f e1 a b e2 c d) (w : World) :
    Calls Tryz.prog 5 #[.int .i64 op, .agg #[.int .i64 p, .bool e1, .int .u64 a, .int .u64 b, .bool e2, .int .u64 c, .int .u64 d]] w fun e w' => e = .returned (.bool true) ∧ Below w.heap.size w w' := by
  go_enter Tryz.func5, Tryz.ntmps5
  go_upto_region 1 with fail
  obtain ⟨W, hW⟩ : ∃ W, (w.alloc (.cells #[.int .i64 p, .bool e1, .int .u64 a, .int .u64 b, .bool e2, .int .u64 c, .int .u64 d] 27)) = W := ⟨_, rfl⟩
  have x0 : W.cell? ⟨w.heap.size, 0, none⟩ = some (.int .i64 p) := by rw [← hW]; simp [go_sem]
  have x1 : W.cell? ⟨w.heap.size, 1, none⟩ = some (.bool e1) := by rw [← hW]; simp [go_sem]
  have x2 : W.cell? ⟨w.heap.size, 2, none⟩ = some (.int .u64 a) := by rw [← hW]; simp [go_sem]
  have x3 : W.cell? ⟨w.heap.size, 3, none⟩ = some (.int .u64 b) := by rw [← hW]; simp [go_sem]
  have x4 : W.cell? ⟨w.heap.size, 4, none⟩ = some (.bool e2) := by rw [← hW]; simp [go_sem]
  have x5 : W.cell? ⟨w.heap.size, 5, none⟩ = some (.int .u64 c) := by rw [← hW]; simp [go_sem]
  have x6 : W.cell? ⟨w.heap.size, 6, none⟩ = some (.int .u64 d) := by rw [← hW]; simp [go_sem]
  have bW : Below w.heap.size w W := by rw [← hW]; exact (sp_new (Below.refl _ _) _)
  have zW : W.heap.size = w.heap.size + 1 := by rw [← hW]; simp
  rw [hW]
  clear hW
  cases RT
  · clear main
    go_wp2_with (first
      | (go_at_call 15; refine (kf _).mono ?_; rintro e v0 ⟨rfl, g⟩; replace bW := sp_call bW g; replace x0 := sO g x0; replace x1 := sO g x1; replace x2 := sO g x2; replace x3 := sO g x3; replace x4 := sO g x4; replace x5 := sO g x5; replace x6 := sO g x6; clear g)
      | (go_at_call 22; refine (kr _).mono ?_; rintro e v1 ⟨rfl, g⟩; replace bW := sp_call bW g; replace x0 := sO g x0; replace x1 := sO g x1; replace x2 := sO g x2; replace x3 := sO g x3; replace x4 := sO g x4; replace x5 := sO g x5; replace x6 := sO g x6; clear g)
      | (go_at_call 23; refine (hl _).mono ?_; rintro e vl ⟨rfl, g⟩; replace bW := sp_call bW g; clear g)
      | fail)
    go_ret
    exact ⟨rfl, bW⟩
  obtain ⟨pe, qe, pl, ph, ql, qh, k1, k2⟩ := main rfl
  clear main
  go_upto_region 4 with (first
    | (go_at_call 15; refine (kf _).mono ?_; rintro e v0 ⟨rfl, g⟩; replace bW := sp_call bW g; replace x0 := sO g x0; replace x1 := sO g x1; replace x2 := sO g x2; replace x3 := sO g x3; replace x4 := sO g x4; replace x5 := sO g x5; replace x6 := sO g x6; clear g)
    | (go_at_call 22; refine (kr _).mono ?_; rintro e v1 ⟨rfl, g⟩; replace bW := sp_call bW g; replace x0 := sO g x0; replace x1 := sO g x1; replace x2 := sO g x2; replace x3 := sO g x3; replace x4 := sO g x4; replace x5 := sO g x5; replace x6 := sO g x6; clear g)
    | fail)
  have cc : Below v1.heap.size v1 v1 := Below.refl _ _
  go_cut [6, 7] from 17 to 26 (fun s u X => ∃ (W5 : World) (b6 b7 : Nat), W5 = X ∧ s = .pointer (some ⟨b6, 0, none⟩) ∧ u = .pointer (some ⟨b7, 0, none⟩) ∧ X.cell? ⟨b6, 0, none⟩ = some (.bool pe) ∧ X.cell? ⟨b6, 1, none⟩ = some (.int .u64 pl) ∧ X.cell? ⟨b6, 2, none⟩ = some (.int .u64 ph) ∧ X.cell? ⟨b7, 0, none⟩ = some (.bool qe) ∧ X.cell? ⟨b7, 1, none⟩ = some (.int .u64 ql) ∧ X.cell? ⟨b7, 2, none⟩ = some (.int .u64 qh) ∧ Below v1.heap.size v1 X)
  case first =>
   go_wp2_with (first
     | (go_at_call 38; refine (k1 _).mono ?_; rintro e u3 ⟨rfl, g⟩; replace cc := sp_call cc g; clear g)
     | fail)
   go_meet
   have zg := cc.size
   exact ⟨_, _, _, rfl, rfl, rfl, by simp [go_sem], by simp [go_sem], by simp [go_sem], by simp [go_sem], by simp [go_sem], by simp [go_sem], by (repeat (first | exact Below.refl _ _ | assumption | with_reducible refine sp_new ?_ _ | with_reducible refine sp_set1f ?_ (by omega) _))⟩
  case rest =>
   obtain ⟨W5, b6, b7, rfl, rfl, rfl, m0, m1, m2, n0, n1, n2, cX⟩ := hcut
   replace x0 := sO cX x0; replace x1 := sO cX x1; replace x2 := sO cX x2; replace x3 := sO cX x3; replace x4 := sO cX x4; replace x5 := sO cX x5; replace x6 := sO cX x6
   replace bW := sp_call bW cX
   clear cX cc
   have cc : Below W5.heap.size W5 W5 := Below.refl _ _
   go_upto_region 5 with fail
   go_cut [8, 9] from 27 to 36 (fun s u X => ∃ (W6 : World) (b8 b9 : Nat), W6 = X ∧ s = .pointer (some ⟨b8, 0, none⟩) ∧ u = .pointer (some ⟨b9, 0, none⟩) ∧ X.cell? ⟨b8, 0, none⟩ = some (.bool pe) ∧ X.cell? ⟨b8, 1, none⟩ = some (.int .u64 pl) ∧ X.cell? ⟨b8, 2, none⟩ = some (.int .u64 ph) ∧ X.cell? ⟨b9, 0, none⟩ = some (.bool qe) ∧ X.cell? ⟨b9, 1, none⟩ = some (.int .u64 ql) ∧ X.cell? ⟨b9, 2, none⟩ = some (.int .u64 qh) ∧ Below W5.heap.size W5 X)
   case first =>
    go_wp2_with (first
      | (go_at_call 39; refine (k2 _).mono ?_; rintro e u3 ⟨rfl, g⟩; replace cc := sp_call cc g; clear g)
      | fail)
    go_meet
    have zg := cc.size
    exact ⟨_, _, _, rfl, rfl, rfl, by simp [go_sem], by simp [go_sem], by simp [go_sem], by simp [go_sem], by simp [go_sem], by simp [go_sem], by (repeat (first | exact Below.refl _ _ | assumption | with_reducible refine sp_new ?_ _ | with_reducible refine sp_set1f ?_ (by omega) _))⟩
   case rest =>
    obtain ⟨W6, b8, b9, rfl, rfl, rfl, r0, r1, r2, s0, s1, s2, cX⟩ := hcut
    replace m0 := sO cX m0; replace m1 := sO cX m1; replace m2 := sO cX m2; replace n0 := sO cX n0; replace n1 := sO cX n1; replace n2 := sO cX n2
    replace bW := sp_call bW cX
    clear cX cc
    have cc : Below W6.heap.size W6 W6 := Below.refl _ _
    go_wp2_with (first
      | (go_at_call 23; refine (hl _).mono ?_; rintro e vl ⟨rfl, g⟩; replace bW := sp_call bW g; replace m0 := sO g m0; replace m1 := sO g m1; replace m2 := sO g m2; replace n0 := sO g n0; replace n1 := sO g n1; replace n2 := sO g n2; replace r0 := sO g r0; replace r1 := sO g r1; replace r2 := sO g r2; replace s0 := sO g s0; replace s1 := sO g s1; replace s2 := sO g s2; clear g)
      | fail)
    go_ret
    exact ⟨by first | rfl | simp, bW⟩
end Go.Proofs.YthjoigkckgdcaaaGreat


namespace Go.Proofs.YthjoigkckgdcaaaGreat
open Go.RowKit
set_option linter.unusedVariables false
set_option linter.unusedSimpArgs false
theorem zright_any (p : Int) (s : Bool) (hs : (p == 1) = s) (e1 : Bool) (a b : Int) (e2 : Bool) (c d : Int) (ha : Word a) (hb : Word b) (hc : Word c) (hd : Word d) (w : World) :
    Calls Tryz.prog 22 #[.agg #[.int .i64 p, .bool e1, .int .u64 a, .int .u64 b, .bool e2, .int .u64 c, .int .u64 d]] w fun e w' => e = .returned (.bool (rRF s e1 a b && rRF s e2 c d)) ∧ Below w.heap.size w w' := by
  have KF : ∀ V, Calls Tryz.prog 15 #[.int .i64 p] V fun e w' => e = .returned (.int .i64 (fb s)) ∧ Below V.heap.size V w' := fun V => by
    have := format8 p V
    rw [hs] at this
    exact this.mono fun e w' h => b_eq h
  have R1 := rrightF_any s e1 a b ha hb
  have R2 := rrightF_any s e2 c d hc hd
  cases r1 : rRF s e1 a b
  · rw [r1] at R1
    exact tright_f p (fb s) e1 a b e2 c d KF R1 w
  · rw [r1] at R1
    exact tright_t p (fb s) e1 a b e2 c d _ KF R1 R2 w
theorem refineO_any (f op : Int) (ho : op < 12 ∨ 17 < op) (e1 : Bool) (a b : Int) (e2 : Bool) (c d : Int) (w : World) :
    Calls Tryz.prog 38 #[.int .i64 f, .int .i64 op, .agg #[.bool e1, .int .u64 a, .int .u64 b], .agg #[.bool e2, .int .u64 c, .int .u64 d]] w fun e w' => e = .returned (.tuple #[.agg #[.bool e1, .int .u64 a, .int .u64 b], .agg #[.bool e2, .int .u64 c, .int .u64 d]]) ∧ Below w.heap.size w w' :=
  frefine_of f op e1 a b e2 c d _ _ _ _ _ _ (fun L B w0 hL V ok => rdef_f L op ho e1 e2 a b c d V) w
theorem upto_word {s : Bool} {x : Int} (hx : Word x) (st : Bool) : Word (rUpTo s x st).2.1 ∧ Word (rUpTo s x st).2.2 := by
  have of_word : ∀ x y : Int, Word x → Word y → Word (rOfF s x y).2.1 ∧ Word (rOfF s x y).2.2 := fun x y h1 h2 => by
    unfold rOfF
    split
    · exact ⟨n_plainw s x h1, n_plainw s y h2⟩
    · exact ⟨word_0, word_0⟩
  have we : Word (negF s (fI s - 1)) := by cases s <;> exact ⟨by decide +kernel, by decide +kernel⟩
  unfold rUpTo
  split
  · split
    · exact ⟨word_0, word_0⟩
    · exact of_word _ _ we (n_prevw s x hx)
  · exact of_word _ _ we hx
theorem from_word {s : Bool} {x : Int} (hx : Word x) (st : Bool) : Word (rFrom s x st).2.1 ∧ Word (rFrom s x st).2.2 := by
  have of_word : ∀ x y : Int, Word x → Word y → Word (rOfF s x y).2.1 ∧ Word (rOfF s x y).2.2 := fun x y h1 h2 => by
    unfold rOfF
    split
    · exact ⟨n_plainw s x h1, n_plainw s y h2⟩
    · exact ⟨word_0, word_0⟩
  have we : Word (fI s - 1) := by cases s <;> exact ⟨by decide +kernel, by decide +kernel⟩
  unfold rFrom
  split
  · split
    · exact ⟨word_0, word_0⟩
    · exact of_word _ _ (n_nextw s x hx) we
  · exact of_word _ _ hx we
theorem rrefineF_any (s : Bool) (op : Int) (h12 : 12 ≤ op) (h17 : op ≤ 17) (a b c d : Int) (ha : Word a) (hb : Word b) (hc : Word c) (hd : Word d) (w : World) :
    Calls Tryz.prog 39 #[.int .i64 (fb s), .int .i64 op, .agg #[.bool false, .int .u64 a, .int .u64 b], .agg #[.bool false, .int .u64 c, .int .u64 d]] w fun e w' => e = .returned (.tuple #[.agg #[.bool (rRefF s op (false, a, b) (false, c, d)).1.1, .int .u64 (rRefF s op (false, a, b) (false, c, d)).1.2.1, .int .u64 (rRefF s op (false, a, b) (false, c, d)).1.2.2], .agg #[.bool (rRefF s op (false, a, b) (false, c, d)).2.1, .int .u64 (rRefF s op (false, a, b) (false, c, d)).2.2.1, .int .u64 (rRefF s op (false, a, b) (false, c, d)).2.2.2]]) ∧ Below w.heap.size w w' := by
  rcases (show op = 12 ∨ op = 13 ∨ op = 14 ∨ op = 15 ∨ op = 16 ∨ op = 17 by omega) with rfl | rfl | rfl | rfl | rfl | rfl
  · exact rr_lt (fb s) a b c d _ _ _ _ _ _ _ _ _ _ _ _ (rupto_any s d true hd) (rmeetF_any s false a b _ _ _ ha hb (upto_word hd true).1 (upto_word hd true).2) (rfrom_any s a true ha) (rmeetF_any s false c d _ _ _ hc hd (from_word ha true).1 (from_word ha true).2) w
  · exact rr_le (fb s) a b c d _ _ _ _ _ _ _ _ _ _ _ _ (rupto_any s d false hd) (rmeetF_any s false a b _ _ _ ha hb (upto_word hd false).1 (upto_word hd false).2) (rfrom_any s a false ha) (rmeetF_any s false c d _ _ _ hc hd (from_word ha false).1 (from_word ha false).2) w
  · exact rr_gt (fb s) a b c d _ _ _ _ _ _ _ _ _ _ _ _ (rfrom_any s c true hc) (rmeetF_any s false a b _ _ _ ha hb (from_word hc true).1 (from_word hc true).2) (rupto_any s b true hb) (rmeetF_any s false c d _ _ _ hc hd (upto_word hb true).1 (upto_word hb true).2) w
  · exact rr_ge (fb s) a b c d _ _ _ _ _ _ _ _ _ _ _ _ (rfrom_any s c false hc) (rmeetF_any s false a b _ _ _ ha hb (from_word hc false).1 (from_word hc false).2) (rupto_any s b false hb) (rmeetF_any s false c d _ _ _ hc hd (upto_word hb false).1 (upto_word hb false).2) w
  · exact rr_eq (fb s) a b c d _ _ _ _ _ _ (rmeetF_any s false a b false c d ha hb hc hd) rfl rfl rfl w
  · refine rr_ne (fb s) a b c d (if c = d then rWithoutF s (false, a, b) c else (false, a, b)).1 (if a = b then rWithoutF s (false, c, d) a else (false, c, d)).1 (if c = d then rWithoutF s (false, a, b) c else (false, a, b)).2.1 (if c = d then rWithoutF s (false, a, b) c else (false, a, b)).2.2 (if a = b then rWithoutF s (false, c, d) a else (false, c, d)).2.1 (if a = b then rWithoutF s (false, c, d) a else (false, c, d)).2.2 ?_ ?_ w
    · by_cases q : c = d
      · left; refine ⟨q, ?_⟩
        rw [if_pos q]
        exact rwithoutF_any s false a b c hc
      · right; rw [if_neg q]; exact ⟨q, rfl, rfl, rfl⟩
    · by_cases q : a = b
      · left; refine ⟨q, ?_⟩
        rw [if_pos q]
        exact rwithoutF_any s false c d a ha
      · right; rw [if_neg q]; exact ⟨q, rfl, rfl, rfl⟩
set_option maxRecDepth 100000 in
theorem law_refines (op p : Int) (e1 : Bool) (a b : Int) (e2 : Bool) (c d : Int) (ha : Word a) (hb : Word b) (hc : Word c) (hd : Word d) (w : World) :
    Calls Tryz.prog 5 #[.int .i64 op, .agg #[.int .i64 p, .bool e1, .int .u64 a, .int .u64 b, .bool e2, .int .u64 c, .int .u64 d]] w fun e w' => e = .returned (.bool true) ∧ Below w.heap.size w w' := by
  obtain ⟨s, hs⟩ : ∃ s, (p == 1) = s := ⟨_, rfl⟩
  have KF : ∀ V, Calls Tryz.prog 15 #[.int .i64 p] V fun e w' => e = .returned (.int .i64 (fb s)) ∧ Below V.heap.size V w' := fun V => by
    have := format8 p V
    rw [hs] at this
    exact this.mono fun e w' h => b_eq h
  refine rs_all op p (fb s) e1 a b e2 c d _ KF (zright_any p s hs e1 a b e2 c d ha hb hc hd) live_any (fun r => ?_) w
  have t := fI_two s
  rw [Bool.and_eq_true] at r
  by_cases ho : op < 12 ∨ 17 < op
  · exact ⟨_, _, _, _, _, _, refineO_any (fb s) op ho e1 a b e2 c d, rr_out (fb s) op ho e1 a b e2 c d⟩
  have h12 : 12 ≤ op := by omega
  have h17 : op ≤ 17 := by omega
  have one0 : (WyF s).one 0 = true := one_mk (r := 0) (by omega) (by omega)
  have ones : ∀ {e : Bool} {x y : Int}, Word x → Word y → rRF s e x y = true → (WyF s).one x = true ∧ (WyF s).one y = true := fun {e x y} hx hy h => by
    cases e
    · obtain ⟨u, v, u1, uv, v2, rfl, rfl⟩ := right_mk hx hy h
      exact ⟨one_mk u1 (by omega), one_mk (by omega) v2⟩
    · unfold rRF at h
      simp only [if_true, Bool.and_eq_true, beq_iff_eq] at h
      rw [h.1, h.2]
      exact ⟨one0, one0⟩
  obtain ⟨oa, ob⟩ := ones ha hb r.1
  obtain ⟨oc, od⟩ := ones hc hd r.2
  have KR := refineF_any (fb s) op h12 h17 e1 a b e2 c d ha hb hc hd
  rw [fb_eq] at KR
  replace KR := KR oa ob oc od
  cases he : (e1 || e2)
  · obtain ⟨rfl, rfl⟩ : e1 = false ∧ e2 = false := by simpa using he
    have KQ := rrefineF_any s op h12 h17 a b c d ha hb hc hd
    obtain ⟨a', b', a1, ab, b2, rfl, rfl⟩ := right_mk ha hb r.1
    obtain ⟨c', d', c1, cd, d2, rfl, rfl⟩ := right_mk hc hd r.2
    rw [refine_same h12 h17 a1 ab b2 c1 cd d2] at KR
    exact ⟨_, _, _, _, _, _, KR, KQ⟩
  · rw [refine_none h12 h17 (e1, a, b) (e2, c, d) he] at KR
    exact ⟨_, _, _, _, _, _, KR, rr_none (fb s) op h12 h17 e1 a b e2 c d he⟩
end Go.Proofs.YthjoigkckgdcaaaGreat


