/- Roots; which one of two is less; what a float is. -/
import Derived.Test.YtfdinlomlcnjnaaDoorSoftN
namespace Go.Proofs.YtfdinlomlcnjnaaDoor
open Go.RowKit
set_option linter.unusedVariables false
set_option linter.unusedSimpArgs false
/-- A number that grows as the floats do. -/
def rnk (s : Bool) (a : Int) : Int := if sgn s a then -(zOf s a) else zOf s a
theorem zOf_small (s : Bool) (a : Int) (h : Word a) (c : (cls s a == 0 || cls s a == 5) = false) : zOf s a ≤ fI s := by
  simp only [Bool.or_eq_false_iff, beq_eq_false_iff_ne, ne_eq] at c
  obtain ⟨k0, k5⟩ := c
  unfold cls at k0 k5
  have w : wideB s a = false := by
    cases t : wideB s a
    · rfl
    · rw [t] at k0; simp at k0
  rw [w] at k5
  simp only [Bool.false_eq_true, if_false] at k5
  by_cases t : fI s < zOf s a
  · rw [if_pos t] at k5; exact absurd rfl k5
  · omega
theorem order_any (s : Bool) (a : Int) (h : Word a) (hz : zOf s a ≤ 9223372036854775807) (w : World) :
    Calls Tryd.prog 74 #[fmtV s, .int .u64 a] w fun e w' => e = .returned (.int .i64 (rnk s a)) ∧ w' = w.alloc (fmtO s) := by
  obtain ⟨z0, z1⟩ := zOf_word s a h
  have hg : ∃ g, sgn s a = g := ⟨_, rfl⟩
  obtain ⟨g, hg⟩ := hg
  have hzz : ∃ z, zOf s a = z := ⟨_, rfl⟩
  obtain ⟨z, hzz⟩ := hzz
  unfold rnk
  rw [hg, hzz]
  rw [hzz] at z0 z1 hz
  have n1 : bits BinOp.andNot IntKind.u64 a (fS s) = z := hzz
  have n2 : (bits BinOp.and IntKind.u64 a (fS s) != 0) = g := hg
  rw [fmtV_eq, fmtO_eq]
  generalize fS s = S at *
  clear hg hzz
  cases g
  · go_enter Tryd.func74, Tryd.ntmps74
    go_wp2_with fail
    go_ret
    exact ⟨rfl, rfl⟩
  · go_enter Tryd.func74, Tryd.ntmps74
    go_wp2_with fail
    go_ret
    exact ⟨rfl, rfl⟩
/-- Which one is less; is each a number? -/
def cmpF (s : Bool) (a b : Int) : Int × Bool :=
  if (cls s a == 0 || cls s a == 5) || (cls s b == 0 || cls s b == 5) then (0, false)
  else (if rnk s a < rnk s b then -1 else if rnk s b < rnk s a then 1 else 0, true)
theorem fI_i64 (s : Bool) : fI s ≤ 9223372036854775807 := by cases s <;> decide
set_option maxRecDepth 8000 in
set_option maxHeartbeats 1600000 in
theorem compare_fl (f a b : Int) (h1 : Word a) (h2 : Word b) (w : World) :
    Calls Tryd.prog 38 #[.int .i64 f, .int .u64 a, .int .u64 b] w fun r w' => r = .returned (.tuple #[.int .i64 (cmpF (f == 1) a b).1, .bool (cmpF (f == 1) a b).2]) ∧ Below w.heap.size w w' := by
  have hda : ∀ (w : World) (n : Nat) (o : Obj), (w.drewN n).alloc o = (w.alloc o).drewN n := fun _ _ _ => rfl
  have hfo := formatOf_ex f
  generalize (f == 1) = s at *
  have hn1 := noNumber_any (cls s a) (sgn s a) (whl s a) (pwr s a)
  have hn2 := noNumber_any (cls s b) (sgn s b) (whl s b) (pwr s b)
  have hsa := split_ex s a h1
  have hsb := split_ex s b h2
  have ho1 : (cls s a == 0 || cls s a == 5) = false → ∀ w, _ := fun c => order_any s a h1 (Int.le_trans (zOf_small s a h1 c) (fI_i64 s))
  have ho2 : (cls s b == 0 || cls s b == 5) = false → ∀ w, _ := fun c => order_any s b h2 (Int.le_trans (zOf_small s b h2 c) (fI_i64 s))
  unfold cmpF
  unfold prt prtO at hn1 hn2
  rw [fmtV_eq] at hfo hsa hsb ho1 ho2
  unfold prtV at hsa hsb
  generalize (cls s a == 0 || cls s a == 5) = N1 at *
  generalize (cls s b == 0 || cls s b == 5) = N2 at *
  generalize cls s a = k1 at *
  generalize cls s b = k2 at *
  generalize sgn s a = g1 at *
  generalize sgn s b = g2 at *
  generalize whl s a = u1 at *
  generalize whl s b = u2 at *
  generalize pwr s a = p1 at *
  generalize pwr s b = p2 at *
  generalize rnk s a = r1 at *
  generalize rnk s b = r2 at *
  cases N1
  · cases N2
    · simp only [Bool.or_false, Bool.false_eq_true, if_false]
      have hp1 := ho1 rfl
      have hp2 := ho2 rfl
      clear ho1 ho2
      go_enter Tryd.func38, Tryd.ntmps38
      go_wp2_with (first
        | (go_at_call 69; refine (hfo _).mono ?_; rintro r w1 ⟨rfl, o1, o2, rfl⟩)
        | (go_at_call_of 72 a; refine (hsa _).mono ?_; rintro r w2 ⟨rfl, o3, o4, o5, o6, n1, rfl⟩)
        | (go_at_call_of 72 b; refine (hsb _).mono ?_; rintro r w2 ⟨rfl, o7, o8, o9, oa, n2, rfl⟩)
        | (go_at_call_of 73 k1; refine (hn1 _).mono ?_; rintro r w2 ⟨rfl, rfl⟩)
        | (go_at_call_of 73 k2; refine (hn2 _).mono ?_; rintro r w2 ⟨rfl, rfl⟩))
      go_region_held3 (fun w' => w'.cell? ⟨w.heap.size + 1 + 1, 0, none⟩ = some (.int .i64 (fW s)) ∧ w'.cell? ⟨w.heap.size + 1 + 1, 1, none⟩ = some (.int .i64 (fQ s)) ∧ w'.cell? ⟨w.heap.size + 1 + 1, 2, none⟩ = some (.int .i64 (fL s)) ∧ w'.cell? ⟨w.heap.size + 1 + 1, 3, none⟩ = some (.int .u64 (fS s)) ∧ w'.cell? ⟨w.heap.size + 1 + 1, 4, none⟩ = some (.int .u64 (fI s)))
        (simp [go_sem, World.cell?_alloc_past])
        (first
          | (go_at_call_of 74 a; refine (hp1 _).mono ?_; rintro r w2 ⟨rfl, rfl⟩)
          | (go_at_call_of 74 b; refine (hp2 _).mono ?_; rintro r w3 ⟨rfl, rfl⟩))
      by_cases c1 : r1 < r2
      · go_wp2_with fail
        exact bodyPost_ret (v := .tuple #[.int .i64 (-1), .bool true]) (by simp [results, Tryd.results38, go_sem]) rfl ⟨by simp [c1], (by repeat (first | with_reducible exact Below.refl _ _ | with_reducible refine below_new ?_ _ | with_reducible refine Below.drew ?_ | with_reducible refine below_dN ?_ _))⟩
      · by_cases c2 : r2 < r1
        · go_wp2_with fail
          exact bodyPost_ret (v := .tuple #[.int .i64 (1), .bool true]) (by simp [results, Tryd.results38, go_sem]) rfl ⟨by simp [c1, c2], (by repeat (first | with_reducible exact Below.refl _ _ | with_reducible refine below_new ?_ _ | with_reducible refine Below.drew ?_ | with_reducible refine below_dN ?_ _))⟩
        · go_wp2_with fail
          exact bodyPost_ret (v := .tuple #[.int .i64 (0), .bool true]) (by simp [results, Tryd.results38, go_sem]) rfl ⟨by simp [c1, c2], (by repeat (first | with_reducible exact Below.refl _ _ | with_reducible refine below_new ?_ _ | with_reducible refine Below.drew ?_ | with_reducible refine below_dN ?_ _))⟩
    · simp only [Bool.or_true, if_true]
      go_enter Tryd.func38, Tryd.ntmps38
      go_wp2_with (first
        | (go_at_call 69; refine (hfo _).mono ?_; rintro r w1 ⟨rfl, o1, o2, rfl⟩)
        | (go_at_call_of 72 a; refine (hsa _).mono ?_; rintro r w2 ⟨rfl, o3, o4, o5, o6, n1, rfl⟩)
        | (go_at_call_of 72 b; refine (hsb _).mono ?_; rintro r w2 ⟨rfl, o7, o8, o9, oa, n2, rfl⟩)
        | (go_at_call_of 73 k1; refine (hn1 _).mono ?_; rintro r w2 ⟨rfl, rfl⟩)
        | (go_at_call_of 73 k2; refine (hn2 _).mono ?_; rintro r w2 ⟨rfl, rfl⟩))
      exact bodyPost_ret (v := .tuple #[.int .i64 0, .bool false]) (by simp [results, Tryd.results38, go_sem]) rfl ⟨rfl, (by repeat (first | with_reducible exact Below.refl _ _ | with_reducible refine below_new ?_ _ | with_reducible refine Below.drew ?_ | with_reducible refine below_dN ?_ _))⟩
  · simp only [Bool.true_or, if_true]
    go_enter Tryd.func38, Tryd.ntmps38
    go_wp2_with (first
        | (go_at_call 69; refine (hfo _).mono ?_; rintro r w1 ⟨rfl, o1, o2, rfl⟩)
        | (go_at_call_of 72 a; refine (hsa _).mono ?_; rintro r w2 ⟨rfl, o3, o4, o5, o6, n1, rfl⟩)
        | (go_at_call_of 73 k1; refine (hn1 _).mono ?_; rintro r w2 ⟨rfl, rfl⟩))
    exact bodyPost_ret (v := .tuple #[.int .i64 0, .bool false]) (by simp [results, Tryd.results38, go_sem]) rfl ⟨rfl, (by repeat (first | with_reducible exact Below.refl _ _ | with_reducible refine below_new ?_ _ | with_reducible refine Below.drew ?_ | with_reducible refine below_dN ?_ _))⟩
theorem class_fl (f a : Int) (h1 : Word a) (w : World) :
    Calls Tryd.prog 64 #[.int .i64 f, .int .u64 a] w fun r w' => r = .returned (.int .i64 (cls (f == 1) a)) ∧ Below w.heap.size w w' := by
  have hda : ∀ (w : World) (n : Nat) (o : Obj), (w.drewN n).alloc o = (w.alloc o).drewN n := fun _ _ _ => rfl
  have hfo := formatOf_ex f
  generalize (f == 1) = s at *
  have hc := class_any s a h1
  rw [fmtV_eq] at hfo hc
  generalize cls s a = k at *
  go_enter Tryd.func64, Tryd.ntmps64
  go_wp2_with (first
    | (go_at_call 69; refine (hfo _).mono ?_; rintro r w1 ⟨rfl, o1, o2, rfl⟩)
    | (go_at_call 88; refine (hc _).mono ?_; rintro r w2 ⟨rfl, rfl⟩))
  go_ret
  exact ⟨rfl, (by repeat (first | with_reducible exact Below.refl _ _ | with_reducible refine below_new ?_ _ | with_reducible refine Below.drew ?_ | with_reducible refine below_dN ?_ _))⟩
/-- Is it a finite float? -/
def finF (s : Bool) (a : Int) : Bool := cls s a == 1 || cls s a == 2 || cls s a == 3
theorem finite_fl (f a : Int) (h1 : Word a) (w : World) :
    Calls Tryd.prog 36 #[.int .i64 f, .int .u64 a] w fun r w' => r = .returned (.bool (finF (f == 1) a)) ∧ Below w.heap.size w w' := by
  have hc := class_fl f a h1
  generalize (f == 1) = s at *
  unfold finF
  generalize cls s a = k at *
  by_cases c1 : k = 1
  · subst c1
    go_enter Tryd.func36, Tryd.ntmps36
    go_wp2_with fail
    refine (hc _).mono ?_
    rintro r w1 ⟨rfl, hb1⟩
    go_wp2_with fail
    go_ret
    exact ⟨rfl, hb1⟩
  · by_cases c2 : k = 2
    · subst c2
      go_enter Tryd.func36, Tryd.ntmps36
      go_wp2_with fail
      refine (hc _).mono ?_
      rintro r w1 ⟨rfl, hb1⟩
      go_wp2_with fail
      go_ret
      exact ⟨rfl, hb1⟩
    · by_cases c3 : k = 3
      · subst c3
        go_enter Tryd.func36, Tryd.ntmps36
        go_wp2_with fail
        refine (hc _).mono ?_
        rintro r w1 ⟨rfl, hb1⟩
        go_wp2_with fail
        go_ret
        exact ⟨rfl, hb1⟩
      · have d1 : (k == 1) = false := by simp [c1]
        have d2 : (k == 2) = false := by simp [c2]
        have d3 : (k == 3) = false := by simp [c3]
        rw [d1, d2, d3]
        go_enter Tryd.func36, Tryd.ntmps36
        go_wp2_with fail
        refine (hc _).mono ?_
        rintro r w1 ⟨rfl, hb1⟩
        go_wp2_with fail
        go_ret
        exact ⟨rfl, hb1⟩
end Go.Proofs.YtfdinlomlcnjnaaDoor

