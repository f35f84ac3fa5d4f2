/- Sums of two floats. -/
import Derived.Test.YtfdinlomlcnjnaaSoftJ
namespace Go.Proofs.Ytfdinlomlcnjnaa
open Go.RowKit
set_option linter.unusedVariables false
set_option linter.unusedSimpArgs false
set_option maxRecDepth 8000 in
set_option maxHeartbeats 8000000 in
theorem add_fl (f m a b : Int) (h1 : Word a) (h2 : Word b) (w : World) :
    Calls Try.prog 7 #[.int .i64 f, .int .i64 m, .int .u64 a, .int .u64 b] w fun r w' => r = .returned (.int .u64 (addF (f == 1) m a b)) ∧ Below w.heap.size w w' := by
  have hda : ∀ (w : World) (n : Nat) (o : Obj), (w.drewN n).alloc o = (w.alloc o).drewN n := fun _ _ _ => rfl
  have hfo := formatOf_ex f
  have hsum := sum_any f m (cls (f == 1) a) (sgn (f == 1) a) (whl (f == 1) a) (pwr (f == 1) a) (cls (f == 1) b) (sgn (f == 1) b) (whl (f == 1) b) (pwr (f == 1) b)
  generalize (f == 1) = s at *
  have F1 := fin_of s a h1
  have F2 := fin_of s b h2
  have hV : ∃ V, addF s m a b = V := ⟨_, rfl⟩
  obtain ⟨V, hV⟩ := hV
  rw [hV]
  unfold addF at hV
  have hn1 := noNumber_any (cls s a) (sgn s a) (whl s a) (pwr s a)
  have hn2 := noNumber_any (cls s b) (sgn s b) (whl s b) (pwr s b)
  have hi1 := isInfinite_any (cls s a) (sgn s a) (whl s a) (pwr s a)
  have hi2 := isInfinite_any (cls s b) (sgn s b) (whl s b) (pwr s b)
  have hnan := nan_ex s
  unfold prt prtO at hn1 hn2 hi1 hi2
  rw [fmtV_eq, fmtO_eq] at hnan
  generalize (cls s a == 0 || cls s a == 5) = N1 at *
  generalize (cls s b == 0 || cls s b == 5) = N2 at *
  generalize (cls s a == 4) = I1 at *
  generalize (cls s b == 4) = I2 at *
  have hsa := split_ex s a h1
  have hsb := split_ex s b h2
  rw [fmtV_eq] at hfo hsa hsb
  unfold prtV at hsa hsb
  generalize cls s a = k1 at *
  generalize cls s b = k2 at *
  generalize sgn s a = g1 at *
  generalize sgn s b = g2 at *
  generalize whl s a = u1 at *
  generalize whl s b = u2 at *
  generalize pwr s a = p1 at *
  generalize pwr s b = p2 at *
  have hG : ∃ G, (!(g1 == g2)) = G := ⟨_, rfl⟩
  obtain ⟨G, hG⟩ := hG
  rw [show (g1 != g2) = G from hG] at hV
  have HV : Hid _ := hV
  clear hV
  go_enter Try.func7, Try.ntmps7
  go_wp2_with (go_at_call 16; refine (hfo _).mono ?_; rintro r w1 ⟨rfl, o1, o2, rfl⟩)
  go_cut [9, 10, 11] from 14 to 19 (fun o p q wx => ∃ bf bx bz : Nat, o = .pointer (some ⟨bf, 0, none⟩) ∧ p = .pointer (some ⟨bx, 0, none⟩) ∧ q = .pointer (some ⟨bz, 0, none⟩) ∧ PrtAt wx bx k1 g1 u1 p1 ∧ PrtAt wx bz k2 g2 u2 p2 ∧ FmtAt wx bf s ∧ Below w.heap.size w wx)
  case first =>
    clear hn1 hn2 hi1 hi2 hnan HV F1 F2 hsum hfo
    go_region_held3 (fun w' => w'.cell? ⟨w.heap.size + 1 + 1, 0, none⟩ = some (.int .i64 (fW s)) ∧ w'.cell? ⟨w.heap.size + 1 + 1, 1, none⟩ = some (.int .i64 (fQ s)) ∧ w'.cell? ⟨w.heap.size + 1 + 1, 2, none⟩ = some (.int .i64 (fL s)) ∧ w'.cell? ⟨w.heap.size + 1 + 1, 3, none⟩ = some (.int .u64 (fS s)) ∧ w'.cell? ⟨w.heap.size + 1 + 1, 4, none⟩ = some (.int .u64 (fI s)))
      (simp [go_sem, World.cell?_alloc_past])
      (first
        | (go_at_call_of 17 a; refine (hsa _).mono ?_; rintro r w2 ⟨rfl, o3, o4, o5, o6, n1, rfl⟩)
        | (go_at_call_of 17 b; refine (hsb _).mono ?_; rintro r w3 ⟨rfl, o7, o8, o9, oa, n2, rfl⟩))
    all_goals (go_wp2_with fail; go_meet)
    all_goals exact ⟨_, _, _, rfl, rfl, rfl, by unfold PrtAt; simp [go_sem, World.cell?_alloc_past], by unfold PrtAt; simp [go_sem, World.cell?_alloc_past], by unfold FmtAt; simp [go_sem, World.cell?_alloc_past], by repeat (first | with_reducible exact Below.refl _ _ | with_reducible refine below_new ?_ _ | with_reducible refine Below.drew ?_ | with_reducible refine below_dN ?_ _ | with_reducible refine Below.setCell ?_ (by simp; omega) _)⟩
  case rest =>
    obtain ⟨bf, bx, bz, rfl, rfl, rfl, ⟨x0, x1, x2, x3⟩, ⟨z0, z1, z2, z3⟩, ⟨y0, y1, y2, y3, y4⟩, L⟩ := hcut
    have lx := lt_new x0
    have lz := lt_new z0
    have ly := lt_new y0
    clear hfo hsa hsb
    have lx1 : bx < wc.heap.size + 1 := by omega
    have lx2 : bx < wc.heap.size + 1 + 1 := by omega
    have lx3 : bx < wc.heap.size + 1 + 1 + 1 := by omega
    have lx4 : bx < wc.heap.size + 1 + 1 + 1 + 1 := by omega
    have lx5 : bx < wc.heap.size + 1 + 1 + 1 + 1 + 1 := by omega
    have lx6 : bx < wc.heap.size + 1 + 1 + 1 + 1 + 1 + 1 := by omega
    have lx7 : bx < wc.heap.size + 1 + 1 + 1 + 1 + 1 + 1 + 1 := by omega
    have lx8 : bx < wc.heap.size + 1 + 1 + 1 + 1 + 1 + 1 + 1 + 1 := by omega
    have lz1 : bz < wc.heap.size + 1 := by omega
    have lz2 : bz < wc.heap.size + 1 + 1 := by omega
    have lz3 : bz < wc.heap.size + 1 + 1 + 1 := by omega
    have lz4 : bz < wc.heap.size + 1 + 1 + 1 + 1 := by omega
    have lz5 : bz < wc.heap.size + 1 + 1 + 1 + 1 + 1 := by omega
    have lz6 : bz < wc.heap.size + 1 + 1 + 1 + 1 + 1 + 1 := by omega
    have lz7 : bz < wc.heap.size + 1 + 1 + 1 + 1 + 1 + 1 + 1 := by omega
    have lz8 : bz < wc.heap.size + 1 + 1 + 1 + 1 + 1 + 1 + 1 + 1 := by omega
    have ly1 : bf < wc.heap.size + 1 := by omega
    have ly2 : bf < wc.heap.size + 1 + 1 := by omega
    have ly3 : bf < wc.heap.size + 1 + 1 + 1 := by omega
    have ly4 : bf < wc.heap.size + 1 + 1 + 1 + 1 := by omega
    have ly5 : bf < wc.heap.size + 1 + 1 + 1 + 1 + 1 := by omega
    have ly6 : bf < wc.heap.size + 1 + 1 + 1 + 1 + 1 + 1 := by omega
    have ly7 : bf < wc.heap.size + 1 + 1 + 1 + 1 + 1 + 1 + 1 := by omega
    have ly8 : bf < wc.heap.size + 1 + 1 + 1 + 1 + 1 + 1 + 1 + 1 := by omega
    cases N1
    · cases N2
      · cases I1
        · cases I2
          · have v := HV.out
            simp only [Bool.or_true, Bool.or_false, Bool.and_true, Bool.and_false, Bool.true_or, Bool.false_or, Bool.true_and, Bool.false_and, if_true, if_false, Bool.false_eq_true] at v
            have HW : Hid _ := v
            clear v HV
            obtain ⟨f1, _⟩ := F1 rfl rfl
            obtain ⟨f2, _⟩ := F2 rfl rfl
            have hsu := hsum f1 f2
            unfold prt at hsu
            go_wp2_with (first
              | (go_at_call_of 18 k1; refine (hn1 _).mono ?_; rintro r w2 ⟨rfl, rfl⟩)
              | (go_at_call_of 18 k2; refine (hn2 _).mono ?_; rintro r w2 ⟨rfl, rfl⟩)
              | (go_at_call_of 20 k1; refine (hi1 _).mono ?_; rintro r w2 ⟨rfl, rfl⟩)
              | (go_at_call_of 20 k2; refine (hi2 _).mono ?_; rintro r w2 ⟨rfl, rfl⟩)
              | (go_at_call 19; refine (hnan _).mono ?_; rintro r w2 ⟨rfl, rfl⟩))
            refine (hsu _).mono ?_
            rintro r w5 ⟨rfl, hb5⟩
            replace L : Below w.heap.size w w5 := below_call (by repeat (first | with_reducible exact L | with_reducible refine below_new ?_ _ | with_reducible refine Below.drew ?_ | with_reducible refine below_dN ?_ _)) hb5
            clear hb5 hsu
            go_wp2_with fail
            go_ret
            exact ⟨ru_eq HW.out, L⟩
          · have v := HV.out
            simp only [Bool.or_true, Bool.or_false, Bool.and_true, Bool.and_false, Bool.true_or, Bool.false_or, Bool.true_and, Bool.false_and, if_true, if_false, Bool.false_eq_true] at v
            subst v
            go_wp2_with (first
              | (go_at_call_of 18 k1; refine (hn1 _).mono ?_; rintro r w2 ⟨rfl, rfl⟩)
              | (go_at_call_of 18 k2; refine (hn2 _).mono ?_; rintro r w2 ⟨rfl, rfl⟩)
              | (go_at_call_of 20 k1; refine (hi1 _).mono ?_; rintro r w2 ⟨rfl, rfl⟩)
              | (go_at_call_of 20 k2; refine (hi2 _).mono ?_; rintro r w2 ⟨rfl, rfl⟩)
              | (go_at_call 19; refine (hnan _).mono ?_; rintro r w2 ⟨rfl, rfl⟩))
            go_ret
            exact ⟨rfl, (by repeat (first | with_reducible exact L | with_reducible refine below_new ?_ _ | with_reducible refine Below.drew ?_ | with_reducible refine below_dN ?_ _))⟩
        · cases I2
          · have v := HV.out
            simp only [Bool.or_true, Bool.or_false, Bool.and_true, Bool.and_false, Bool.true_or, Bool.false_or, Bool.true_and, Bool.false_and, if_true, if_false, Bool.false_eq_true] at v
            subst v
            go_wp2_with (first
              | (go_at_call_of 18 k1; refine (hn1 _).mono ?_; rintro r w2 ⟨rfl, rfl⟩)
              | (go_at_call_of 18 k2; refine (hn2 _).mono ?_; rintro r w2 ⟨rfl, rfl⟩)
              | (go_at_call_of 20 k1; refine (hi1 _).mono ?_; rintro r w2 ⟨rfl, rfl⟩)
              | (go_at_call_of 20 k2; refine (hi2 _).mono ?_; rintro r w2 ⟨rfl, rfl⟩)
              | (go_at_call 19; refine (hnan _).mono ?_; rintro r w2 ⟨rfl, rfl⟩))
            go_ret
            exact ⟨rfl, (by repeat (first | with_reducible exact L | with_reducible refine below_new ?_ _ | with_reducible refine Below.drew ?_ | with_reducible refine below_dN ?_ _))⟩
          · cases G
            · have v := HV.out
              simp only [Bool.or_true, Bool.or_false, Bool.and_true, Bool.and_false, Bool.true_or, Bool.false_or, Bool.true_and, Bool.false_and, if_true, if_false, Bool.false_eq_true] at v
              subst v
              go_wp2_with (first
                | (go_at_call_of 18 k1; refine (hn1 _).mono ?_; rintro r w2 ⟨rfl, rfl⟩)
                | (go_at_call_of 18 k2; refine (hn2 _).mono ?_; rintro r w2 ⟨rfl, rfl⟩)
                | (go_at_call_of 20 k1; refine (hi1 _).mono ?_; rintro r w2 ⟨rfl, rfl⟩)
                | (go_at_call_of 20 k2; refine (hi2 _).mono ?_; rintro r w2 ⟨rfl, rfl⟩)
                | (go_at_call 19; refine (hnan _).mono ?_; rintro r w2 ⟨rfl, rfl⟩))
              go_ret
              exact ⟨rfl, (by repeat (first | with_reducible exact L | with_reducible refine below_new ?_ _ | with_reducible refine Below.drew ?_ | with_reducible refine below_dN ?_ _))⟩
            · have v := HV.out
              simp only [Bool.or_true, Bool.or_false, Bool.and_true, Bool.and_false, Bool.true_or, Bool.false_or, Bool.true_and, Bool.false_and, if_true, if_false, Bool.false_eq_true] at v
              subst v
              go_wp2_with (first
                | (go_at_call_of 18 k1; refine (hn1 _).mono ?_; rintro r w2 ⟨rfl, rfl⟩)
                | (go_at_call_of 18 k2; refine (hn2 _).mono ?_; rintro r w2 ⟨rfl, rfl⟩)
                | (go_at_call_of 20 k1; refine (hi1 _).mono ?_; rintro r w2 ⟨rfl, rfl⟩)
                | (go_at_call_of 20 k2; refine (hi2 _).mono ?_; rintro r w2 ⟨rfl, rfl⟩)
                | (go_at_call 19; refine (hnan _).mono ?_; rintro r w2 ⟨rfl, rfl⟩))
              go_ret
              exact ⟨rfl, (by repeat (first | with_reducible exact L | with_reducible refine below_new ?_ _ | with_reducible refine Below.drew ?_ | with_reducible refine below_dN ?_ _))⟩
      · have v := HV.out
        simp only [Bool.or_true, Bool.or_false, Bool.and_true, Bool.and_false, Bool.true_or, Bool.false_or, Bool.true_and, Bool.false_and, if_true, if_false, Bool.false_eq_true] at v
        subst v
        go_wp2_with (first
          | (go_at_call_of 18 k1; refine (hn1 _).mono ?_; rintro r w2 ⟨rfl, rfl⟩)
          | (go_at_call_of 18 k2; refine (hn2 _).mono ?_; rintro r w2 ⟨rfl, rfl⟩)
          | (go_at_call_of 20 k1; refine (hi1 _).mono ?_; rintro r w2 ⟨rfl, rfl⟩)
          | (go_at_call_of 20 k2; refine (hi2 _).mono ?_; rintro r w2 ⟨rfl, rfl⟩)
          | (go_at_call 19; refine (hnan _).mono ?_; rintro r w2 ⟨rfl, rfl⟩))
        go_ret
        exact ⟨rfl, (by repeat (first | with_reducible exact L | with_reducible refine below_new ?_ _ | with_reducible refine Below.drew ?_ | with_reducible refine below_dN ?_ _))⟩
    · have v := HV.out
      simp only [Bool.or_true, Bool.or_false, Bool.and_true, Bool.and_false, Bool.true_or, Bool.false_or, Bool.true_and, Bool.false_and, if_true, if_false, Bool.false_eq_true] at v
      subst v
      go_wp2_with (first
        | (go_at_call_of 18 k1; refine (hn1 _).mono ?_; rintro r w2 ⟨rfl, rfl⟩)
        | (go_at_call_of 18 k2; refine (hn2 _).mono ?_; rintro r w2 ⟨rfl, rfl⟩)
        | (go_at_call_of 20 k1; refine (hi1 _).mono ?_; rintro r w2 ⟨rfl, rfl⟩)
        | (go_at_call_of 20 k2; refine (hi2 _).mono ?_; rintro r w2 ⟨rfl, rfl⟩)
        | (go_at_call 19; refine (hnan _).mono ?_; rintro r w2 ⟨rfl, rfl⟩))
      go_ret
      exact ⟨rfl, (by repeat (first | with_reducible exact L | with_reducible refine below_new ?_ _ | with_reducible refine Below.drew ?_ | with_reducible refine below_dN ?_ _))⟩
end Go.Proofs.Ytfdinlomlcnjnaa

