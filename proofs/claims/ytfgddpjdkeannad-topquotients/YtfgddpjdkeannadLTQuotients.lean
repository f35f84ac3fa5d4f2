/- The statement TopQuotients, walked: a quotient times what it is by, rounded down, is not above the number, rounded up not below. -/
import Derived.Test.YtfgddpjdkeannadSoftTp
namespace Go.Proofs.Ytfgddpjdkeannad
open Go.RowKit
set_option linter.unusedVariables false
set_option maxRecDepth 8000 in
set_option maxHeartbeats 1600000 in
theorem law_topquotients (f a b : Int) (hf1 : -9223372036854775808 ≤ f) (hf2 : f ≤ 9223372036854775807) (h1 : Word a) (h2 : Word b) (w : World) :
    Calls Try.prog 6 #[.int .i64 f, .int .u64 a, .int .u64 b] w fun e w' => e = .returned (.bool true) ∧ Below w.heap.size w w' := by
  have hfm := tformat_any f
  generalize (f == 1) = s at *
  have f1 := finite_fl (fb s) a h1
  have f2 := finite_fl (fb s) b h2
  rw [fb_back] at f1 f2
  have n1 := not_any s a 0 h1 word_zero
  have n2 := not_any s b 0 h2 word_zero
  have d1 := div_fl (fb s) 2 a b h1 h2
  have d2 := div_fl (fb s) 1 a b h1 h2
  rw [fb_back] at d1 d2
  have m1 := mul_fl (fb s) 2 _ b (divF_word s 2 a b) h2
  have m2 := mul_fl (fb s) 1 _ b (divF_word s 1 a b) h2
  rw [fb_back] at m1 m2
  have k1 := not_any s _ a (mulF_word s 2 (divF s 2 a b) b) h1
  have k2 := not_any s a _ h1 (mulF_word s 1 (divF s 1 a b) b)
  have P1 := pos_of s a h1
  have P2 := pos_of s b h2
  have L := Below.refl w.heap.size w
  have fin : finF s a = true → finF s b = true → notF s a 0 = false → notF s b 0 = false → notF s (mulF s 2 (divF s 2 a b) b) a = true ∧ notF s a (mulF s 1 (divF s 1 a b) b) = true := by
    intro q1 q2 q3 q4
    obtain ⟨za, a0, a1, rfl⟩ := P1 q1 q3
    obtain ⟨zb, b0, b1, rfl⟩ := P2 q2 q4
    obtain ⟨zm, e1, l1, l2⟩ := quot_down s za zb a0 b0 a1 b1
    obtain ⟨zn, e2, l3, l4⟩ := quot_up s za zb a0 b0 a1 b1
    rw [e1, e2]
    exact ⟨cmp_num l1 (by omega) rfl rfl l2, cmp_num (by omega) l3 rfl rfl l4⟩
  have HF : Hid _ := fin
  clear fin P1 P2
  generalize mulF s 2 (divF s 2 a b) b = M1 at *
  generalize mulF s 1 (divF s 1 a b) b = M2 at *
  generalize divF s 2 a b = D1 at *
  generalize divF s 1 a b = D2 at *
  generalize notF s M1 a = K1 at *
  generalize notF s a M2 = K2 at *
  generalize finF s a = F1 at *
  generalize finF s b = F2 at *
  generalize notF s a 0 = N1 at *
  generalize notF s b 0 = N2 at *
  generalize fb s = g at *
  cases F1
  · clear HF
    go_enter Try.func6, Try.ntmps6
    go_wp2_with (first
      | (go_at_call 17; refine (hfm _).mono ?_; rintro e w1 ⟨rfl, rfl⟩)
      | (go_at_call_of 18 (Value.int IntKind.u64 a); refine (f1 _).mono ?_; rintro e w1 ⟨rfl, hb⟩; replace L := below_call L hb)
      | (go_at_call 20; refine (sound_any _).mono ?_; rintro e w1 ⟨rfl, hb⟩; replace L := below_call L hb))
    go_ret
    exact ⟨rfl, L⟩
  · cases F2
    · clear HF
      go_enter Try.func6, Try.ntmps6
      go_wp2_with (first
        | (go_at_call 17; refine (hfm _).mono ?_; rintro e w1 ⟨rfl, rfl⟩)
        | (go_at_call_of 18 (Value.int IntKind.u64 a); refine (f1 _).mono ?_; rintro e w1 ⟨rfl, hb⟩; replace L := below_call L hb)
        | (go_at_call_of 18 (Value.int IntKind.u64 b); refine (f2 _).mono ?_; rintro e w1 ⟨rfl, hb⟩; replace L := below_call L hb)
        | (go_at_call 20; refine (sound_any _).mono ?_; rintro e w1 ⟨rfl, hb⟩; replace L := below_call L hb))
      go_ret
      exact ⟨rfl, L⟩
    · cases N1
      · cases N2
        · obtain ⟨rfl, rfl⟩ := HF.out rfl rfl rfl rfl
          clear HF
          go_enter Try.func6, Try.ntmps6
          go_wp2_with (first
            | (go_at_call 17; refine (hfm _).mono ?_; rintro e w1 ⟨rfl, rfl⟩)
            | (go_at_call_of 18 (Value.int IntKind.u64 a); refine (f1 _).mono ?_; rintro e w1 ⟨rfl, hb⟩; replace L := below_call L hb)
            | (go_at_call_of 18 (Value.int IntKind.u64 b); refine (f2 _).mono ?_; rintro e w1 ⟨rfl, hb⟩; replace L := below_call L hb)
            | (go_at_call_of 19 (Value.int IntKind.u64 0); go_at_call_of 19 (Value.int IntKind.u64 a); refine (n1 _).mono ?_; rintro e w1 ⟨rfl, hb⟩; replace L := below_call L hb)
            | (go_at_call_of 19 (Value.int IntKind.u64 0); go_at_call_of 19 (Value.int IntKind.u64 b); refine (n2 _).mono ?_; rintro e w1 ⟨rfl, hb⟩; replace L := below_call L hb)
            | (go_at_call 20; refine (sound_any _).mono ?_; rintro e w1 ⟨rfl, hb⟩; replace L := below_call L hb)
            | (go_at_call_of 14 (Value.int IntKind.i64 2); refine (d1 _).mono ?_; rintro e w1 ⟨rfl, hb⟩; replace L := below_call L hb)
            | (go_at_call_of 14 (Value.int IntKind.i64 1); refine (d2 _).mono ?_; rintro e w1 ⟨rfl, hb⟩; replace L := below_call L hb)
            | (go_at_call_of 15 (Value.int IntKind.i64 2); refine (m1 _).mono ?_; rintro e w1 ⟨rfl, hb⟩; replace L := below_call L hb)
            | (go_at_call_of 15 (Value.int IntKind.i64 1); refine (m2 _).mono ?_; rintro e w1 ⟨rfl, hb⟩; replace L := below_call L hb)
            | (go_at_call_of 19 (Value.int IntKind.u64 M1); refine (k1 _).mono ?_; rintro e w1 ⟨rfl, hb⟩; replace L := below_call L hb)
            | (go_at_call_of 19 (Value.int IntKind.u64 M2); refine (k2 _).mono ?_; rintro e w1 ⟨rfl, hb⟩; replace L := below_call L hb))
          go_ret
          exact ⟨rfl, L⟩
        · clear HF
          go_enter Try.func6, Try.ntmps6
          go_wp2_with (first
            | (go_at_call 17; refine (hfm _).mono ?_; rintro e w1 ⟨rfl, rfl⟩)
            | (go_at_call_of 18 (Value.int IntKind.u64 a); refine (f1 _).mono ?_; rintro e w1 ⟨rfl, hb⟩; replace L := below_call L hb)
            | (go_at_call_of 18 (Value.int IntKind.u64 b); refine (f2 _).mono ?_; rintro e w1 ⟨rfl, hb⟩; replace L := below_call L hb)
            | (go_at_call_of 19 (Value.int IntKind.u64 a); refine (n1 _).mono ?_; rintro e w1 ⟨rfl, hb⟩; replace L := below_call L hb)
            | (go_at_call_of 19 (Value.int IntKind.u64 b); refine (n2 _).mono ?_; rintro e w1 ⟨rfl, hb⟩; replace L := below_call L hb)
            | (go_at_call 20; refine (sound_any _).mono ?_; rintro e w1 ⟨rfl, hb⟩; replace L := below_call L hb))
          go_ret
          exact ⟨rfl, L⟩
      · clear HF
        go_enter Try.func6, Try.ntmps6
        go_wp2_with (first
          | (go_at_call 17; refine (hfm _).mono ?_; rintro e w1 ⟨rfl, rfl⟩)
          | (go_at_call_of 18 (Value.int IntKind.u64 a); refine (f1 _).mono ?_; rintro e w1 ⟨rfl, hb⟩; replace L := below_call L hb)
          | (go_at_call_of 18 (Value.int IntKind.u64 b); refine (f2 _).mono ?_; rintro e w1 ⟨rfl, hb⟩; replace L := below_call L hb)
          | (go_at_call_of 19 (Value.int IntKind.u64 a); refine (n1 _).mono ?_; rintro e w1 ⟨rfl, hb⟩; replace L := below_call L hb)
          | (go_at_call 20; refine (sound_any _).mono ?_; rintro e w1 ⟨rfl, hb⟩; replace L := below_call L hb))
        go_ret
        exact ⟨rfl, L⟩
end Go.Proofs.Ytfgddpjdkeannad
