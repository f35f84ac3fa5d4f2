/- The reference's ranks and sizes; soft's Abs, Most and Nan. -/
import Derived.Test.YtfgddpjdkeannacSRefB
import Derived.Test.YtfgddpjdkeannacSRefF
import Derived.Test.YtfgddpjdkeannacSoftO
namespace Go.Proofs.Ytfgddpjdkeannac
open Go.RowKit
set_option linter.unusedVariables false
set_option linter.unusedSimpArgs false
/-- A float without its sign. -/
def absF (s : Bool) (a : Int) : Int := if cls s a == 0 || cls s a == 5 then fNan s else zOf s a
theorem rabs_any (s : Bool) (a : Int) (h : Word a) (w : World) : Calls Try.prog 18 #[.int .i64 (fb s), .int .u64 a] w fun e w' => e = .returned (.int .u64 (absF s a)) ∧ ∃ n, w' = w.drewN n := by
  have hc := risNan_any s a h
  have hn := rnan_any s
  have hs := rsign_any s true
  rw [if_pos rfl] at hs
  unfold absF
  generalize (cls s a == 0 || cls s a == 5) = N at *
  generalize fb s = f at *
  unfold zOf
  generalize fS s = S at *
  generalize fNan s = Q at *
  cases N
  · go_enter Try.func18, Try.ntmps18
    go_wp2_with (first
      | (go_at_call 40; refine (hc _).mono ?_; rintro e w1 ⟨rfl, n, rfl⟩)
      | (go_at_call 52; refine (hs _).mono ?_; rintro e w1 ⟨rfl, rfl⟩))
    go_ret
    exact ⟨rfl, n, rfl⟩
  · go_enter Try.func18, Try.ntmps18
    go_wp2_with (first
      | (go_at_call 40; refine (hc _).mono ?_; rintro e w1 ⟨rfl, n, rfl⟩)
      | (go_at_call 24; refine (hn _).mono ?_; rintro e w1 ⟨rfl, rfl⟩))
    go_ret
    exact ⟨rfl, _, rfl⟩
theorem rmost_d (w : World) : Calls Try.prog 22 #[.int .i64 0] w fun e w' => e = .returned (.int .u64 9218868437227405311) ∧ w' = w := by
  have hs := rsize_d
  go_enter Try.func22, Try.ntmps22
  go_wp2_with (go_at_call 50; refine (hs _).mono ?_; rintro e w1 ⟨rfl, rfl⟩)
  go_ret
  exact ⟨rfl, rfl⟩
theorem rmost_s (w : World) : Calls Try.prog 22 #[.int .i64 1] w fun e w' => e = .returned (.int .u64 2139095039) ∧ w' = w := by
  have hs := rsize_s
  go_enter Try.func22, Try.ntmps22
  go_wp2_with (go_at_call 50; refine (hs _).mono ?_; rintro e w1 ⟨rfl, rfl⟩)
  go_ret
  exact ⟨rfl, rfl⟩
theorem rmost_any (s : Bool) (w : World) : Calls Try.prog 22 #[.int .i64 (fb s)] w fun e w' => e = .returned (.int .u64 (fI s - 1)) ∧ w' = w := by
  cases s
  · exact rmost_d w
  · exact rmost_s w
theorem rrank_any (s : Bool) (a : Int) (h : Word a) (hz : zOf s a ≤ 9223372036854775807) (w : World) : Calls Try.prog 55 #[.int .i64 (fb s), .int .u64 a] w fun e w' => e = .returned (.int .i64 (rnk s a)) ∧ w' = w := by
  obtain ⟨z0, z1⟩ := zOf_word s a h
  have hs := rsign_any s true
  rw [if_pos rfl] at hs
  have hb := rbelow_any s a
  unfold rnk
  have n1 : bits BinOp.andNot IntKind.u64 a (fS s) = zOf s a := rfl
  generalize zOf s a = z at *
  generalize sgn s a = g at *
  generalize fb s = f at *
  generalize fS s = S at *
  cases g
  · go_enter Try.func55, Try.ntmps55
    go_wp2_with (first
      | (go_at_call 52; refine (hs _).mono ?_; rintro e w1 ⟨rfl, rfl⟩)
      | (go_at_call 41; refine (hb _).mono ?_; rintro e w1 ⟨rfl, rfl⟩))
    go_ret
    exact ⟨rfl, rfl⟩
  · go_enter Try.func55, Try.ntmps55
    go_wp2_with (first
      | (go_at_call 52; refine (hs _).mono ?_; rintro e w1 ⟨rfl, rfl⟩)
      | (go_at_call 41; refine (hb _).mono ?_; rintro e w1 ⟨rfl, rfl⟩))
    go_ret
    exact ⟨rfl, rfl⟩
set_option maxHeartbeats 800000 in
theorem rcompare_any (s : Bool) (a b : Int) (h1 : Word a) (h2 : Word b) (w : World) : Calls Try.prog 26 #[.int .i64 (fb s), .int .u64 a, .int .u64 b] w fun e w' => e = .returned (.tuple #[.int .i64 (cmpF s a b).1, .bool (cmpF s a b).2]) ∧ ∃ n, w' = w.drewN n := by
  have hn1 := risNan_any s a h1
  have hn2 := risNan_any s b h2
  have ho1 : (cls s a == 0 || cls s a == 5) = false → ∀ w, _ := fun c => rrank_any s a h1 (Int.le_trans (zOf_small s a h1 c) (fI_i64 s))
  have ho2 : (cls s b == 0 || cls s b == 5) = false → ∀ w, _ := fun c => rrank_any s b h2 (Int.le_trans (zOf_small s b h2 c) (fI_i64 s))
  unfold cmpF
  generalize (cls s a == 0 || cls s a == 5) = N1 at *
  generalize (cls s b == 0 || cls s b == 5) = N2 at *
  generalize rnk s a = r1 at *
  generalize rnk s b = r2 at *
  generalize fb s = f at *
  cases N1
  · cases N2
    · have hp1 := ho1 rfl
      have hp2 := ho2 rfl
      clear ho1 ho2
      simp only [Bool.or_false, Bool.false_eq_true, if_false]
      have c : r1 < r2 ∨ (¬ r1 < r2 ∧ r2 < r1) ∨ (¬ r1 < r2 ∧ ¬ r2 < r1) := by omega
      rcases c with c1 | ⟨c1, c2⟩ | ⟨c1, c2⟩
      · go_enter Try.func26, Try.ntmps26
        go_wp2_with (first
          | (go_at_call_of 40 a; refine (hn1 _).mono ?_; rintro e w1 ⟨rfl, n, rfl⟩)
          | (go_at_call_of 40 b; refine (hn2 _).mono ?_; rintro e w1 ⟨rfl, k, rfl⟩)
          | (go_at_call_of 55 a; refine (hp1 _).mono ?_; rintro e w1 ⟨rfl, rfl⟩)
          | (go_at_call_of 55 b; refine (hp2 _).mono ?_; rintro e w1 ⟨rfl, rfl⟩))
        exact bodyPost_ret (v := .tuple #[.int .i64 (-1), .bool true]) (by simp [results, Try.results26, go_sem]) rfl ⟨by simp [c1], _, rfl⟩
      · go_enter Try.func26, Try.ntmps26
        go_wp2_with (first
          | (go_at_call_of 40 a; refine (hn1 _).mono ?_; rintro e w1 ⟨rfl, n, rfl⟩)
          | (go_at_call_of 40 b; refine (hn2 _).mono ?_; rintro e w1 ⟨rfl, k, rfl⟩)
          | (go_at_call_of 55 a; refine (hp1 _).mono ?_; rintro e w1 ⟨rfl, rfl⟩)
          | (go_at_call_of 55 b; refine (hp2 _).mono ?_; rintro e w1 ⟨rfl, rfl⟩))
        exact bodyPost_ret (v := .tuple #[.int .i64 (1), .bool true]) (by simp [results, Try.results26, go_sem]) rfl ⟨by simp [c1, c2], _, rfl⟩
      · go_enter Try.func26, Try.ntmps26
        go_wp2_with (first
          | (go_at_call_of 40 a; refine (hn1 _).mono ?_; rintro e w1 ⟨rfl, n, rfl⟩)
          | (go_at_call_of 40 b; refine (hn2 _).mono ?_; rintro e w1 ⟨rfl, k, rfl⟩)
          | (go_at_call_of 55 a; refine (hp1 _).mono ?_; rintro e w1 ⟨rfl, rfl⟩)
          | (go_at_call_of 55 b; refine (hp2 _).mono ?_; rintro e w1 ⟨rfl, rfl⟩))
        exact bodyPost_ret (v := .tuple #[.int .i64 (0), .bool true]) (by simp [results, Try.results26, go_sem]) rfl ⟨by simp [c1, c2], _, rfl⟩
    · simp only [Bool.or_true, if_true]
      go_enter Try.func26, Try.ntmps26
      go_wp2_with (first
        | (go_at_call_of 40 a; refine (hn1 _).mono ?_; rintro e w1 ⟨rfl, n, rfl⟩)
        | (go_at_call_of 40 b; refine (hn2 _).mono ?_; rintro e w1 ⟨rfl, k, rfl⟩))
      exact bodyPost_ret (v := .tuple #[.int .i64 0, .bool false]) (by simp [results, Try.results26, go_sem]) rfl ⟨rfl, _, rfl⟩
  · simp only [Bool.true_or, if_true]
    go_enter Try.func26, Try.ntmps26
    go_wp2_with (go_at_call_of 40 a; refine (hn1 _).mono ?_; rintro e w1 ⟨rfl, n, rfl⟩)
    exact bodyPost_ret (v := .tuple #[.int .i64 0, .bool false]) (by simp [results, Try.results26, go_sem]) rfl ⟨rfl, _, rfl⟩
theorem abs_fl (f a : Int) (h1 : Word a) (w : World) :
    Calls Try.prog 17 #[.int .i64 f, .int .u64 a] w fun r w' => r = .returned (.int .u64 (absF (f == 1) a)) ∧ Below w.heap.size w w' := by
  have hda : ∀ (w : World) (n : Nat) (o : Obj), (w.drewN n).alloc o = (w.alloc o).drewN n := fun _ _ _ => rfl
  have hfo := formatOf_ex f
  generalize (f == 1) = s at *
  have hV : ∃ V, absF s a = V := ⟨_, rfl⟩
  obtain ⟨V, hV⟩ := hV
  rw [hV]
  unfold absF zOf at hV
  have hn1 := noNumber_any (cls s a) (sgn s a) (whl s a) (pwr s a)
  have hnan := nan_ex s
  have hsa := split_ex s a h1
  unfold prt prtO at hn1
  rw [fmtV_eq, fmtO_eq] at hnan
  rw [fmtV_eq] at hfo hsa
  unfold prtV at hsa
  generalize (cls s a == 0 || cls s a == 5) = N1 at *
  generalize cls s a = k1 at *
  generalize sgn s a = g1 at *
  generalize whl s a = u1 at *
  generalize pwr s a = p1 at *
  cases N1
  · simp only [Bool.false_eq_true, if_false] at hV
    subst hV
    go_enter Try.func17, Try.ntmps17
    go_wp2_with (first
      | (go_at_call 33; refine (hfo _).mono ?_; rintro r w1 ⟨rfl, o1, o2, rfl⟩)
      | (go_at_call 34; refine (hsa _).mono ?_; rintro r w2 ⟨rfl, o3, o4, o5, o6, n1, rfl⟩)
      | (go_at_call 35; refine (hn1 _).mono ?_; rintro r w2 ⟨rfl, rfl⟩))
    go_ret
    exact ⟨rfl, (by repeat (first | with_reducible exact Below.refl _ _ | with_reducible refine below_new ?_ _ | with_reducible refine Below.drew ?_ | with_reducible refine below_dN ?_ _))⟩
  · simp only [if_true] at hV
    subst hV
    go_enter Try.func17, Try.ntmps17
    go_wp2_with (first
      | (go_at_call 33; refine (hfo _).mono ?_; rintro r w1 ⟨rfl, o1, o2, rfl⟩)
      | (go_at_call 34; refine (hsa _).mono ?_; rintro r w2 ⟨rfl, o3, o4, o5, o6, n1, rfl⟩)
      | (go_at_call 35; refine (hn1 _).mono ?_; rintro r w2 ⟨rfl, rfl⟩)
      | (go_at_call 36; refine (hnan _).mono ?_; rintro r w2 ⟨rfl, rfl⟩))
    go_ret
    exact ⟨rfl, (by repeat (first | with_reducible exact Below.refl _ _ | with_reducible refine below_new ?_ _ | with_reducible refine Below.drew ?_ | with_reducible refine below_dN ?_ _))⟩
theorem most_fl (f : Int) (w : World) : Calls Try.prog 21 #[.int .i64 f] w fun r w' => r = .returned (.int .u64 (fI (f == 1) - 1)) ∧ Below w.heap.size w w' := by
  have hfo := formatOf_ex f
  generalize (f == 1) = s at *
  have hm := most_any s
  rw [fmtV_eq] at hfo hm
  go_enter Try.func21, Try.ntmps21
  go_wp2_with (first
    | (go_at_call 33; refine (hfo _).mono ?_; rintro r w1 ⟨rfl, o1, o2, rfl⟩)
    | (go_at_call 53; refine (hm _).mono ?_; rintro r w2 ⟨rfl, rfl⟩))
  go_ret
  exact ⟨rfl, (by repeat (first | with_reducible exact Below.refl _ _ | with_reducible refine below_new ?_ _ | with_reducible refine Below.drew ?_ | with_reducible refine below_dN ?_ _))⟩
theorem nan_fl (f : Int) (w : World) : Calls Try.prog 23 #[.int .i64 f] w fun r w' => r = .returned (.int .u64 (fNan (f == 1))) ∧ Below w.heap.size w w' := by
  have hfo := formatOf_ex f
  generalize (f == 1) = s at *
  have hm := nan_ex s
  rw [fmtV_eq] at hfo hm
  go_enter Try.func23, Try.ntmps23
  go_wp2_with (first
    | (go_at_call 33; refine (hfo _).mono ?_; rintro r w1 ⟨rfl, o1, o2, rfl⟩)
    | (go_at_call 36; refine (hm _).mono ?_; rintro r w2 ⟨rfl, rfl⟩))
  go_ret
  exact ⟨rfl, (by repeat (first | with_reducible exact Below.refl _ _ | with_reducible refine below_new ?_ _ | with_reducible refine Below.drew ?_ | with_reducible refine below_dN ?_ _))⟩
end Go.Proofs.Ytfgddpjdkeannac
