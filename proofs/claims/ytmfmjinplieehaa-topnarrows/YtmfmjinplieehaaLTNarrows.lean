/- The statement TopNarrows, walked: a Double lies between its Singles. -/
import Derived.Test.YtmfmjinplieehaaSoftNa
namespace Go.Proofs.Ytmfmjinplieehaa
open Go.RowKit
set_option linter.unusedVariables false
set_option maxRecDepth 8000 in
set_option maxHeartbeats 1600000 in
theorem law_topnarrows (a : Int) (h : Word a) (w : World) :
    Calls Try.prog 9 #[.int .u64 a] w fun e w' => e = .returned (.bool true) ∧ Below w.heap.size w w' := by
  have hcl : ∀ w, Calls Try.prog 27 #[.int .i64 0, .int .u64 a] w fun r w' => r = .returned (.int .i64 (cls false a)) ∧ Below w.heap.size w w' := class_fl 0 a h
  have hone := widen_any 1065353216 ⟨by decide, by decide⟩
  rw [cvt_one] at hone
  cases c5 : (cls false a == 5)
  · obtain ⟨n1, n2, n3⟩ := narrows a h c5
    have wl := cvt_word false true 2 a
    have wh := cvt_word false true 1 a
    have hlo := narrow_any 2 a h
    have hhi := narrow_any 1 a h
    have hne := narrow_any 0 a h
    have hwl := widen_any _ wl
    have hwh := widen_any _ wh
    have wl2 := cvt_word true false 0 (cvtF false true 2 a)
    have wh2 := cvt_word true false 0 (cvtF false true 1 a)
    have no1 : ∀ w, Calls Try.prog 30 #[.int .i64 0, .int .u64 (cvtF true false 0 (cvtF false true 2 a)), .int .u64 a] w fun e w' => e = .returned (.bool true) ∧ Below w.heap.size w w' := fun w => by
      have := not_any false _ a wl2 h w
      rw [n1] at this
      exact this
    have no2 : ∀ w, Calls Try.prog 30 #[.int .i64 0, .int .u64 a, .int .u64 (cvtF true false 0 (cvtF false true 1 a))] w fun e w' => e = .returned (.bool true) ∧ Below w.heap.size w w' := fun w => by
      have := not_any false a _ h wh2 w
      rw [n2] at this
      exact this
    clear n1 n2 wl wh wl2 wh2
    generalize cvtF true false 0 (cvtF false true 2 a) = WL at *
    generalize cvtF true false 0 (cvtF false true 1 a) = WH at *
    generalize cvtF false true 2 a = lo at *
    generalize cvtF false true 1 a = hi at *
    generalize cvtF false true 0 a = ne at *
    generalize cls false a = k at *
    have L := Below.refl w.heap.size w
    have q1 : (ne == lo) = true ∨ ((ne == lo) = false ∧ (ne == hi) = true) := by
      rcases n3 with rfl | rfl
      · left; simp
      · by_cases e : ne = lo
        · left; simp [e]
        · right; simp [e]
    clear n3
    rcases q1 with q1 | ⟨q1, q2⟩
    all_goals
      go_enter Try.func9, Try.ntmps9
      go_wp2_with (first
        | (go_at_call 27; refine (hcl _).mono ?_; rintro e w1 ⟨rfl, b1⟩; replace L := below_callC L b1)
        | (go_at_call 29; refine (hlo _).mono ?_; rintro e w2 ⟨rfl, b2⟩; replace L := below_callC L b2)
        | (go_at_call 29; refine (hhi _).mono ?_; rintro e w3 ⟨rfl, b3⟩; replace L := below_callC L b3)
        | (go_at_call 29; refine (hne _).mono ?_; rintro e w4 ⟨rfl, b4⟩; replace L := below_callC L b4)
        | (go_at_call_of 28 lo; refine (hwl _).mono ?_; rintro e w5 ⟨rfl, b5⟩; replace L := below_callC L b5)
        | (go_at_call_of 28 hi; refine (hwh _).mono ?_; rintro e w6 ⟨rfl, b6⟩; replace L := below_callC L b6)
        | (go_at_call_of 30 WL; refine (no1 _).mono ?_; rintro e w7 ⟨rfl, b7⟩; replace L := below_callC L b7)
        | (go_at_call_of 30 WH; refine (no2 _).mono ?_; rintro e w8 ⟨rfl, b8⟩; replace L := below_callC L b8)
        | (go_at_call 28; refine (hone _).mono ?_; rintro e w9 ⟨rfl, b9⟩; replace L := below_callC L b9))
      go_ret
      exact ⟨rfl, L⟩
  · have L := Below.refl w.heap.size w
    generalize cls false a = k at *
    go_enter Try.func9, Try.ntmps9
    go_wp2_with (first
      | (go_at_call 27; refine (hcl _).mono ?_; rintro e w1 ⟨rfl, b1⟩; replace L := below_callC L b1)
      | (go_at_call 28; refine (hone _).mono ?_; rintro e w9 ⟨rfl, b9⟩; replace L := below_callC L b9))
    go_ret
    exact ⟨rfl, L⟩
end Go.Proofs.Ytmfmjinplieehaa

