/- SpanSets: all ways. -/
import Derived.Test.YtagbkgaacfjlaaaGreatZG3
import Derived.Test.YtagbkgaacfjlaaaGreatZG6
import Derived.Test.YtagbkgaacfjlaaaGreatZG4
import Derived.Test.YtagbkgaacfjlaaaGreatZSpFt
import Derived.Test.YtagbkgaacfjlaaaGreatZSpLv
namespace Go.Proofs.YtagbkgaacfjlaaaGreat
open Go.RowKit
set_option linter.unusedVariables false
set_option linter.unusedSimpArgs false
theorem fb_eq8 (s : Bool) : (fb s == 1) = s := by cases s <;> rfl
set_option maxRecDepth 100000 in
theorem format88 (p : Int) (w : World) : Calls Tryz.prog 15 #[.int .i64 p] w fun e w' => e = .returned (.int .i64 (fb (p == 1))) ∧ Below w.heap.size w w' := by
  by_cases c : p = 1
  · subst c
    go_enter Tryz.func15, Tryz.ntmps15
    go_wp2_with fail
    go_ret
    exact ⟨rfl, Below.refl _ _⟩
  · have c1 : (p == 1) = false := by simp [c]
    rw [c1]
    clear c
    go_enter Tryz.func15, Tryz.ntmps15
    go_wp2_with fail
    go_ret
    exact ⟨rfl, Below.refl _ _⟩
theorem ofF_any8 (f x y : Int) (hx : Word x) (hy : Word y) (w : World) :
    Calls Tryz.prog 18 #[.int .i64 f, .int .u64 x, .int .u64 y] w fun e w' => e = .returned (.agg #[.bool (ofP (WyF (f == 1)) x y).1, .int .u64 (ofP (WyF (f == 1)) x y).2.1, .int .u64 (ofP (WyF (f == 1)) x y).2.2]) ∧ Below w.heap.size w w' :=
  fof_of f x y _ _ _ (fun L B w0 hL V ok => of_f (fl_acts hL) x y hx hy (n_plainw _ _ hx) (n_plainw _ _ hy) V ok) w
set_option maxRecDepth 100000 in
theorem law_sets (p : Int) (e1 : Bool) (a b : Int) (e2 : Bool) (c d lo hi : Int) (ha : Word a) (hb : Word b) (hc : Word c) (hd : Word d) (hlo : Word lo) (hhi : Word hi) (w : World) :
    Calls Tryz.prog 3 #[.agg #[.int .i64 p, .bool e1, .int .u64 a, .int .u64 b, .bool e2, .int .u64 c, .int .u64 d], .int .u64 lo, .int .u64 hi] w fun e w' => e = .returned (.bool true) ∧ Below w.heap.size w w' := by
  obtain ⟨s, hs⟩ : ∃ s, (p == 1) = s := ⟨_, rfl⟩
  have KF := format88 p
  rw [hs] at KF
  have S1 := right_any (fb s) e1 a b ha hb
  have R1 := rrightF_any s e1 a b ha hb
  have R2 := rrightF_any s e2 c d hc hd
  have S2 := ofF_any8 (fb s) lo hi hlo hhi
  have Q2 := rofF_any s lo hi hlo hhi
  have S3 := top_any (fb s)
  have Q3 := rtopF_any s
  rw [fb_eq8] at S1 S2 S3
  rw [right_same] at S1
  rw [of_same] at S2
  rw [top_same] at Q3
  cases r1 : rRF s e1 a b
  · rw [r1] at R1 S1
    exact sets_out p (fb s) e1 a b e2 c d lo hi _ _ _ _ _ _ _ KF S1 R1 S2 Q2 S3 Q3 (fun V => tright_f p (fb s) e1 a b e2 c d KF R1 V) live_any w
  rw [r1] at R1 S1
  have TR := fun V => tright_t p (fb s) e1 a b e2 c d _ KF R1 R2 V
  cases r2 : rRF s e2 c d
  · rw [r2] at TR
    exact sets_out p (fb s) e1 a b e2 c d lo hi _ _ _ _ _ _ _ KF S1 R1 S2 Q2 S3 Q3 TR live_any w
  rw [r2] at TR
  obtain ⟨na, nb, _⟩ := right_num r1
  obtain ⟨nc, nd, _⟩ := right_num r2
  have S4 := hasF_any (fb s) e1 a b lo ha hb hlo
  have S5 := meetF_any (fb s) e1 a b e2 c d ha hb hc hd
  have S6 := joinF_any (fb s) e1 a b e2 c d ha hb hc hd
  have S7 := withinF_any (fb s) e1 a b e2 c d ha hb hc hd
  have S8 := widenF_any (fb s) e1 a b e2 c d ha hb hc hd
  rw [fb_eq8] at S4 S5 S6 S7 S8
  rw [has_same hlo na nb] at S4
  rw [meet_same na nb nc nd] at S5
  rw [join_same na nb nc nd] at S6
  rw [within_same na nb nc nd] at S7
  rw [widen_same na nb nc nd] at S8
  exact sets_ok p (fb s) e1 a b e2 c d lo hi _ _ _ _ _ _ _ _ _ _ _ _ _ _ _ _ _ _ KF S1 R1 S2 Q2 S3 Q3 TR live_any S4 (rhasF_any s e1 a b lo ha hb hlo) S5 (rmeetF_any s e1 a b e2 c d ha hb hc hd) S6 (rjoinF_any s e1 a b e2 c d ha hb hc hd) S7 (rwithinF_any s e1 a b e2 c d ha hb hc hd) S8 (rwidenF_any s e1 a b e2 c d ha hb hc hd) w
end Go.Proofs.YtagbkgaacfjlaaaGreat

