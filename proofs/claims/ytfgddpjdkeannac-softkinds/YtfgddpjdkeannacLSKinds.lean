/- The statement SoftKinds, walked: what a float is; with the other sign, without; Most and Nan. -/
import Derived.Test.YtfgddpjdkeannacSRefC
import Derived.Test.YtfgddpjdkeannacSoftLive
namespace Go.Proofs.Ytfgddpjdkeannac
open Go.RowKit
set_option linter.unusedVariables false
set_option maxRecDepth 8000 in
set_option maxHeartbeats 1600000 in
theorem law_softkinds (f a : Int) (hf1 : -9223372036854775808 ≤ f) (hf2 : f ≤ 9223372036854775807) (h1 : Word a) (w : World) :
    Calls Try.prog 4 #[.int .i64 f, .int .u64 a] w fun e w' => e = .returned (.bool true) ∧ Below w.heap.size w w' := by
  have hfm := format_any f
  have c1 := class_fl f a h1
  have c2 := rclass_any (f == 1) a h1
  have n1 := neg_fl f a h1
  have n2 := rneg_any (f == 1) a h1
  have a1 := abs_fl f a h1
  have a2 := rabs_any (f == 1) a h1
  have i1 := finite_fl f a h1
  have i2 := rfinite_any (f == 1) a h1
  have m1 := most_fl f
  have m2 := rmost_any (f == 1)
  have q1 := nan_fl f
  have q2 := rnan_any (f == 1)
  generalize (f == 1) = s at *
  generalize fb s = g at *
  generalize cls s a = k at *
  generalize negF s a = ng at *
  generalize absF s a = ab at *
  generalize finF s a = fi at *
  generalize fI s - 1 = mo at *
  generalize fNan s = qn at *
  have L := Below.refl w.heap.size w
  go_enter Try.func4, Try.ntmps4
  go_wp2_with (first
    | (go_at_call 12; refine (hfm _).mono ?_; rintro e w1 ⟨rfl, rfl⟩)
    | (go_at_call 9; refine (slive_any _).mono ?_; rintro e w1 ⟨rfl, hb⟩; replace L := below_call L hb)
    | (go_at_call 13; refine (c1 _).mono ?_; rintro e w1 ⟨rfl, hb⟩; replace L := below_call L hb)
    | (go_at_call 14; refine (c2 _).mono ?_; rintro e w1 ⟨rfl, n, rfl⟩; replace L := below_dN L n)
    | (go_at_call 15; refine (n1 _).mono ?_; rintro e w1 ⟨rfl, hb⟩; replace L := below_call L hb)
    | (go_at_call 16; refine (n2 _).mono ?_; rintro e w1 ⟨rfl, n, rfl⟩; replace L := below_dN L n)
    | (go_at_call 17; refine (a1 _).mono ?_; rintro e w1 ⟨rfl, hb⟩; replace L := below_call L hb)
    | (go_at_call 18; refine (a2 _).mono ?_; rintro e w1 ⟨rfl, n, rfl⟩; replace L := below_dN L n)
    | (go_at_call 19; refine (i1 _).mono ?_; rintro e w1 ⟨rfl, hb⟩; replace L := below_call L hb)
    | (go_at_call 20; refine (i2 _).mono ?_; rintro e w1 ⟨rfl, n, rfl⟩; replace L := below_dN L n)
    | (go_at_call 21; refine (m1 _).mono ?_; rintro e w1 ⟨rfl, hb⟩; replace L := below_call L hb)
    | (go_at_call 22; refine (m2 _).mono ?_; rintro e w1 ⟨rfl, rfl⟩)
    | (go_at_call 23; refine (q1 _).mono ?_; rintro e w1 ⟨rfl, hb⟩; replace L := below_call L hb)
    | (go_at_call 24; refine (q2 _).mono ?_; rintro e w1 ⟨rfl, rfl⟩; replace L := L.drew))
  go_ret
  exact ⟨rfl, L⟩
end Go.Proofs.Ytfgddpjdkeannac
