/- The statement TopRoots, walked: a root's square, rounded down, is not above the number, rounded up not below. -/
import Derived.Test.YtfgddpjdkeannadSoftTr
namespace Go.Proofs.Ytfgddpjdkeannad
open Go.RowKit
set_option linter.unusedVariables false
set_option maxRecDepth 8000 in
set_option maxHeartbeats 1600000 in
theorem law_toproots (f a : Int) (hf1 : -9223372036854775808 ≤ f) (hf2 : f ≤ 9223372036854775807) (h1 : Word a) (w : World) :
    Calls Try.prog 5 #[.int .i64 f, .int .u64 a] w fun e w' => e = .returned (.bool true) ∧ Below w.heap.size w w' := by
  have hfm := tformat_any f
  generalize (f == 1) = s at *
  have f1 := finite_fl (fb s) a h1
  rw [fb_back] at f1
  have n1 := not_any s 0 a word_zero h1
  have d1 := sqrt_fl (fb s) 2 a h1
  have d2 := sqrt_fl (fb s) 1 a h1
  rw [fb_back] at d1 d2
  have m1 := mul_fl (fb s) 2 _ _ (sqrtF_word s 2 a h1) (sqrtF_word s 2 a h1)
  have m2 := mul_fl (fb s) 1 _ _ (sqrtF_word s 1 a h1) (sqrtF_word s 1 a h1)
  rw [fb_back] at m1 m2
  have k1 := not_any s _ a (mulF_word s 2 (sqrtF s 2 a) (sqrtF s 2 a)) h1
  have k2 := not_any s a _ h1 (mulF_word s 1 (sqrtF s 1 a) (sqrtF s 1 a))
  have HF : Hid _ := roots_law s a h1
  have L := Below.refl w.heap.size w
  generalize mulF s 2 (sqrtF s 2 a) (sqrtF s 2 a) = M1 at *
  generalize mulF s 1 (sqrtF s 1 a) (sqrtF s 1 a) = M2 at *
  generalize sqrtF s 2 a = D1 at *
  generalize sqrtF s 1 a = D2 at *
  generalize notF s M1 a = K1 at *
  generalize notF s a M2 = K2 at *
  generalize finF s a = F1 at *
  generalize notF s 0 a = N1 at *
  generalize fb s = g at *
  cases F1
  · clear HF
    go_enter Try.func5, Try.ntmps5
    go_wp2_with (first
      | (go_at_call 17; refine (hfm _).mono ?_; rintro e w1 ⟨rfl, rfl⟩)
      | (go_at_call 18; refine (f1 _).mono ?_; rintro e w1 ⟨rfl, hb⟩; replace L := below_call L hb)
      | (go_at_call 20; refine (sound_any _).mono ?_; rintro e w1 ⟨rfl, hb⟩; replace L := below_call L hb))
    go_ret
    exact ⟨rfl, L⟩
  · cases N1
    · clear HF
      go_enter Try.func5, Try.ntmps5
      go_wp2_with (first
        | (go_at_call 17; refine (hfm _).mono ?_; rintro e w1 ⟨rfl, rfl⟩)
        | (go_at_call 18; refine (f1 _).mono ?_; rintro e w1 ⟨rfl, hb⟩; replace L := below_call L hb)
        | (go_at_call_of 19 (Value.int IntKind.u64 0); refine (n1 _).mono ?_; rintro e w1 ⟨rfl, hb⟩; replace L := below_call L hb)
        | (go_at_call 20; refine (sound_any _).mono ?_; rintro e w1 ⟨rfl, hb⟩; replace L := below_call L hb))
      go_ret
      exact ⟨rfl, L⟩
    · obtain ⟨rfl, rfl⟩ := HF.out rfl rfl
      clear HF
      go_enter Try.func5, Try.ntmps5
      go_wp2_with (first
        | (go_at_call 17; refine (hfm _).mono ?_; rintro e w1 ⟨rfl, rfl⟩)
        | (go_at_call 18; refine (f1 _).mono ?_; rintro e w1 ⟨rfl, hb⟩; replace L := below_call L hb)
        | (go_at_call_of 19 (Value.int IntKind.u64 0); refine (n1 _).mono ?_; rintro e w1 ⟨rfl, hb⟩; replace L := below_call L hb)
        | (go_at_call 20; refine (sound_any _).mono ?_; rintro e w1 ⟨rfl, hb⟩; replace L := below_call L hb)
        | (go_at_call_of 21 (Value.int IntKind.i64 2); refine (d1 _).mono ?_; rintro e w1 ⟨rfl, hb⟩; replace L := below_call L hb)
        | (go_at_call_of 21 (Value.int IntKind.i64 1); refine (d2 _).mono ?_; rintro e w1 ⟨rfl, hb⟩; replace L := below_call L hb)
        | (go_at_call_of 15 (Value.int IntKind.i64 2); refine (m1 _).mono ?_; rintro e w1 ⟨rfl, hb⟩; replace L := below_call L hb)
        | (go_at_call_of 15 (Value.int IntKind.i64 1); refine (m2 _).mono ?_; rintro e w1 ⟨rfl, hb⟩; replace L := below_call L hb)
        | (go_at_call_of 19 (Value.int IntKind.u64 M1); refine (k1 _).mono ?_; rintro e w1 ⟨rfl, hb⟩; replace L := below_call L hb)
        | (go_at_call_of 19 (Value.int IntKind.u64 M2); refine (k2 _).mono ?_; rintro e w1 ⟨rfl, hb⟩; replace L := below_call L hb))
      go_ret
      exact ⟨rfl, L⟩
end Go.Proofs.Ytfgddpjdkeannad
