/- Roots of floats. -/
import Derived.Test.YtmfmjinplieehaaSoftR
namespace Go.Proofs.Ytmfmjinplieehaa
open Go.RowKit
set_option linter.unusedVariables false
set_option linter.unusedSimpArgs false
/-- The root of a float. -/
def sqrtF (s : Bool) (m a : Int) : Int :=
  if cls s a == 0 || cls s a == 5 then fNan s else if cls s a == 1 then a else if sgn s a then fNan s else if cls s a == 4 then a else sqrtT s m (whl s a).toNat (pwr s a)
set_option maxRecDepth 8000 in
set_option maxHeartbeats 1600000 in
theorem sqrt_fl (f m a : Int) (h1 : Word a) (w : World) :
    Calls Try.prog 22 #[.int .i64 f, .int .i64 m, .int .u64 a] w fun r w' => r = .returned (.int .u64 (sqrtF (f == 1) m a)) ∧ Below w.heap.size w w' := by
  have hda : ∀ (w : World) (n : Nat) (o : Obj), (w.drewN n).alloc o = (w.alloc o).drewN n := fun _ _ _ => rfl
  have hfo := formatOf_ex f
  have hrd := fun h l e more wh wl e1 e2 => round_any f m false h l e more wh wl e1 e2
  generalize (f == 1) = s at *
  have F1 := fin_of s a h1
  have hV : ∃ V, sqrtF s m a = V := ⟨_, rfl⟩
  obtain ⟨V, hV⟩ := hV
  rw [hV]
  unfold sqrtF at hV
  have hn1 := noNumber_any (cls s a) (sgn s a) (whl s a) (pwr s a)
  have hi1 := isInfinite_any (cls s a) (sgn s a) (whl s a) (pwr s a)
  have hz1 := isZero_any (cls s a) (sgn s a) (whl s a) (pwr s a)
  have hnan := nan_ex s
  have hsa := split_ex s a h1
  unfold prt prtO at hn1 hi1 hz1
  rw [fmtV_eq, fmtO_eq] at hnan
  rw [fmtV_eq] at hfo hsa
  unfold prtV at hsa
  generalize (cls s a == 0 || cls s a == 5) = N1 at *
  generalize (cls s a == 4) = I1 at *
  generalize (cls s a == 1) = Z1 at *
  generalize cls s a = k1 at *
  generalize sgn s a = g1 at *
  generalize whl s a = u1 at *
  generalize pwr s a = p1 at *
  have HV : Hid _ := hV
  clear hV
  cases N1
  · cases Z1
    · cases g1
      · cases I1
        · have v := HV.out
          simp only [if_true, if_false, Bool.false_eq_true] at v
          have HW : Hid _ := v
          clear v HV
          obtain ⟨f1, f2⟩ := F1 rfl rfl
          have c1 := f1.word
          have c3 := f1.low
          have c5 := f1.2.2.2.1
          have hro := root_any k1 false u1 p1 c1 (f2 rfl) f1.lt53 (by omega) c5
          unfold prt at hro
          go_enter Try.func22, Try.ntmps22
          go_wp2_with (first
            | (go_at_call 31; refine (hfo _).mono ?_; rintro r w1 ⟨rfl, o1, o2, rfl⟩)
            | (go_at_call 38; refine (hsa _).mono ?_; rintro r w2 ⟨rfl, o3, o4, o5, o6, n1, rfl⟩)
            | (go_at_call 39; refine (hn1 _).mono ?_; rintro r w2 ⟨rfl, rfl⟩)
            | (go_at_call 42; refine (hz1 _).mono ?_; rintro r w2 ⟨rfl, rfl⟩)
            | (go_at_call 41; refine (hi1 _).mono ?_; rintro r w2 ⟨rfl, rfl⟩)
            | (go_at_call 40; refine (hnan _).mono ?_; rintro r w2 ⟨rfl, rfl⟩))
          refine (hro _).mono ?_
          rintro r w5 ⟨al, x, more, rfl, wb, x8, x9, E, hb5⟩
          have L : Below w.heap.size w w5 := below_call (by repeat (first | with_reducible exact Below.refl _ _ | with_reducible refine below_new ?_ _ | with_reducible refine Below.drew ?_ | with_reducible refine below_dN ?_ _ | with_reducible refine Below.setCell ?_ (by simp; omega) _)) hb5
          have xa : -9223372036854775808 ≤ x := by omega
          have xb : x ≤ 9223372036854775807 := by omega
          have hcl : Hid _ := clamp_id x8 x9
          clear hb5 hro
          go_wp2_with fail
          refine (hrd 0 al x more word_zero wb xa xb _).mono ?_
          rintro r w6 ⟨rfl, hb6⟩
          replace L := below_call (below_new L _) hb6
          go_wp2_with fail
          go_ret
          exact ⟨ru_eq (by rw [hcl.out, E.out]; exact HW.out), L⟩
        · have v := HV.out
          simp only [if_true, if_false, Bool.false_eq_true] at v
          subst v
          go_enter Try.func22, Try.ntmps22
          go_wp2_with (first
            | (go_at_call 31; refine (hfo _).mono ?_; rintro r w1 ⟨rfl, o1, o2, rfl⟩)
            | (go_at_call 38; refine (hsa _).mono ?_; rintro r w2 ⟨rfl, o3, o4, o5, o6, n1, rfl⟩)
            | (go_at_call 39; refine (hn1 _).mono ?_; rintro r w2 ⟨rfl, rfl⟩)
            | (go_at_call 42; refine (hz1 _).mono ?_; rintro r w2 ⟨rfl, rfl⟩)
            | (go_at_call 41; refine (hi1 _).mono ?_; rintro r w2 ⟨rfl, rfl⟩)
            | (go_at_call 40; refine (hnan _).mono ?_; rintro r w2 ⟨rfl, rfl⟩))
          go_ret
          exact ⟨rfl, (by repeat (first | with_reducible exact Below.refl _ _ | with_reducible refine below_new ?_ _ | with_reducible refine Below.drew ?_ | with_reducible refine below_dN ?_ _ | with_reducible refine Below.setCell ?_ (by simp; omega) _))⟩
      · have v := HV.out
        simp only [if_true, if_false, Bool.false_eq_true] at v
        subst v
        go_enter Try.func22, Try.ntmps22
        go_wp2_with (first
            | (go_at_call 31; refine (hfo _).mono ?_; rintro r w1 ⟨rfl, o1, o2, rfl⟩)
            | (go_at_call 38; refine (hsa _).mono ?_; rintro r w2 ⟨rfl, o3, o4, o5, o6, n1, rfl⟩)
            | (go_at_call 39; refine (hn1 _).mono ?_; rintro r w2 ⟨rfl, rfl⟩)
            | (go_at_call 42; refine (hz1 _).mono ?_; rintro r w2 ⟨rfl, rfl⟩)
            | (go_at_call 41; refine (hi1 _).mono ?_; rintro r w2 ⟨rfl, rfl⟩)
            | (go_at_call 40; refine (hnan _).mono ?_; rintro r w2 ⟨rfl, rfl⟩))
        go_ret
        exact ⟨rfl, (by repeat (first | with_reducible exact Below.refl _ _ | with_reducible refine below_new ?_ _ | with_reducible refine Below.drew ?_ | with_reducible refine below_dN ?_ _ | with_reducible refine Below.setCell ?_ (by simp; omega) _))⟩
    · have v := HV.out
      simp only [if_true, if_false, Bool.false_eq_true] at v
      subst v
      go_enter Try.func22, Try.ntmps22
      go_wp2_with (first
            | (go_at_call 31; refine (hfo _).mono ?_; rintro r w1 ⟨rfl, o1, o2, rfl⟩)
            | (go_at_call 38; refine (hsa _).mono ?_; rintro r w2 ⟨rfl, o3, o4, o5, o6, n1, rfl⟩)
            | (go_at_call 39; refine (hn1 _).mono ?_; rintro r w2 ⟨rfl, rfl⟩)
            | (go_at_call 42; refine (hz1 _).mono ?_; rintro r w2 ⟨rfl, rfl⟩)
            | (go_at_call 41; refine (hi1 _).mono ?_; rintro r w2 ⟨rfl, rfl⟩)
            | (go_at_call 40; refine (hnan _).mono ?_; rintro r w2 ⟨rfl, rfl⟩))
      go_ret
      exact ⟨rfl, (by repeat (first | with_reducible exact Below.refl _ _ | with_reducible refine below_new ?_ _ | with_reducible refine Below.drew ?_ | with_reducible refine below_dN ?_ _ | with_reducible refine Below.setCell ?_ (by simp; omega) _))⟩
  · have v := HV.out
    simp only [if_true, if_false, Bool.false_eq_true] at v
    subst v
    go_enter Try.func22, Try.ntmps22
    go_wp2_with (first
            | (go_at_call 31; refine (hfo _).mono ?_; rintro r w1 ⟨rfl, o1, o2, rfl⟩)
            | (go_at_call 38; refine (hsa _).mono ?_; rintro r w2 ⟨rfl, o3, o4, o5, o6, n1, rfl⟩)
            | (go_at_call 39; refine (hn1 _).mono ?_; rintro r w2 ⟨rfl, rfl⟩)
            | (go_at_call 42; refine (hz1 _).mono ?_; rintro r w2 ⟨rfl, rfl⟩)
            | (go_at_call 41; refine (hi1 _).mono ?_; rintro r w2 ⟨rfl, rfl⟩)
            | (go_at_call 40; refine (hnan _).mono ?_; rintro r w2 ⟨rfl, rfl⟩))
    go_ret
    exact ⟨rfl, (by repeat (first | with_reducible exact Below.refl _ _ | with_reducible refine below_new ?_ _ | with_reducible refine Below.drew ?_ | with_reducible refine below_dN ?_ _ | with_reducible refine Below.setCell ?_ (by simp; omega) _))⟩
end Go.Proofs.Ytmfmjinplieehaa
